package bin_test

import (
	"iter"
	"math"
	"slices"
	"testing"

	"nacre/api"
	"nacre/bin"
	"nacre/place"
	"nacre/trial"
	"nacre/view"
)

// eight is the configuration of eight pages whose cells some tests write out: Info of the page p is the cell 34 and 6 times p, Foot, Next and Prev the three behind it; Bin(k) is the cell 2 and k.
var eight = api.Config{Threads: 1, Pages: 8, Shift: 10}

// Configurations of each sort, and numbers that are no page's.
var (
	rights   = trial.Rights(eight)
	wrongs   = trial.Wrongs(eight)
	pageless = trial.Pageless(eight)
	vast     = trial.Vast(eight)
	noPages  = trial.NoPages()
)

// noCounts are numbers of pages that no configuration of at most 1 << 14 has.
var noCounts = append([]int{0, 1<<14 + 1}, noPages...)

// noLinks are values that are the link of no page of the eight.
var noLinks = []uint32{9, 10, 255, 256 + 3, 1<<16 + 3, 1 << 31, 1<<31 + 3, math.MaxUint32 - 1, math.MaxUint32}

// noFree are values that are the info of no free span.
var noFree = []uint32{
	0, 1, 1 | 1025<<4, 1 | 4095<<4, 1 | 2<<4 | 1<<16, 1 | 2<<4 | 1<<19, 1 | 2<<4 | 1<<20, 1 | 2<<4 | 1<<31,
	0x22, 2 | 1024<<4, 0x13, 0x80013, 0x90013, 0x23, 4, 0x24, 0x2f, 0x20, 5 | 2<<4, 9 | 2<<4, math.MaxUint32,
}

// blank is rising values of the cells of c, of which those of the bins are 0.
func blank(c api.Config) []uint32 {
	vals := trial.Rising(place.Cells(c))
	clear(vals[place.Bin(0) : place.Bin(10)+1])
	return vals
}

// put is values in whose bin k stand these pages, told by turns with what their infos are.
func put(c api.Config, vals []uint32, k int, pagesAndInfos ...uint32) []uint32 {
	var pages []int
	for i := 0; i < len(pagesAndInfos); i += 2 {
		p := int(pagesAndInfos[i])
		vals[place.Info(c, p)] = pagesAndInfos[i+1]
		pages = append(pages, p)
	}
	trial.Heap{Config: c, Vals: vals}.Relink(place.Bin(k), pages...)
	return vals
}

// wantFind asks whether Find tells this page; none, if it is below 0.
func wantFind(t *testing.T, v *view.View, c api.Config, n, page int) {
	t.Helper()
	got, ok := bin.Find(v, c, n)
	if page < 0 && (got != 0 || ok) || page >= 0 && (got != page || !ok) {
		t.Fatalf("Find(%v, %d) = %d, %t, not %d", c, n, got, ok, page)
	}
}

// wantDrop asks whether Drop tells so many pages.
func wantDrop(t *testing.T, v *view.View, c api.Config, p, n int) {
	t.Helper()
	if got := bin.Drop(v, c, p); got != n {
		t.Fatalf("Drop(%v, %d) = %d, not %d", c, p, got, n)
	}
}

// P14.1, P14.3: the chapter's examples.
func TestExamples(t *testing.T) {
	if got := bin.Of(5); got != 2 {
		t.Fatalf("Of(5) = %d", got)
	}
	v := view.Whole(make([]uint32, place.Cells(eight)))
	bin.Add(v, eight, 0, 8)
	trial.WantCells(t, v, []int{5}, 34, 0x81, 77, 1, 36, 0, 37, 0, 5, 1)
	wantFind(t, v, eight, 5, 0)
	trial.WantCells(t, v, []int{5, 4}, 34, 0x81, 77, 1, 36, 0, 37, 0, 5, 1)
}

// P14.1: Of each number of pages, at each power of two, and just below and just above it.
func TestOf(t *testing.T) {
	for _, x := range [][2]int{
		{1, 0}, {2, 1}, {3, 1}, {4, 2}, {5, 2}, {7, 2}, {8, 3}, {9, 3}, {15, 3}, {16, 4}, {17, 4}, {31, 4}, {32, 5},
		{33, 5}, {63, 5}, {64, 6}, {65, 6}, {127, 6}, {128, 7}, {129, 7}, {255, 7}, {256, 8}, {257, 8}, {511, 8},
		{512, 9}, {513, 9}, {1023, 9}, {1024, 10},
	} {
		if got := bin.Of(x[0]); got != x[1] {
			t.Fatalf("Of(%d) = %d, not %d", x[0], got, x[1])
		}
	}
	want, power := 0, 1
	for n := 1; n <= 1024; n++ {
		if n == 2*power {
			want, power = want+1, n
		}
		if got := bin.Of(n); got != want {
			t.Fatalf("Of(%d) = %d, not %d", n, got, want)
		}
	}
}

// P14.1: numbers of which no free span is.
func TestOfNone(t *testing.T) {
	for _, n := range []int{
		0, -1, -2, -5, -1024, -1 << 31, -1 << 32, -1<<32 + 5, math.MinInt, math.MinInt + 5,
		1025, 1026, 2047, 2048, 4096, 1<<16 + 5, 1 << 31, 1 << 32, 1<<32 + 5, 1 << 62, math.MaxInt - 1, math.MaxInt,
	} {
		if got := bin.Of(n); got != -1 {
			t.Fatalf("Of(%d) = %d", n, got)
		}
	}
}

// P14.1: what Add reads and writes, into a bin that is empty, at the first page, the last one, and in between, of one page, of some, and of as many as there are.
func TestAddIntoAnEmptyBin(t *testing.T) {
	for _, x := range []struct {
		p, n   int
		read   int
		writes []int
	}{
		{0, 1, 2, []int{34, 0x11, 35, 1, 36, 0, 37, 0, 2, 1}},
		{0, 2, 3, []int{34, 0x21, 41, 1, 36, 0, 37, 0, 3, 1}},
		{0, 7, 4, []int{34, 0x71, 71, 1, 36, 0, 37, 0, 4, 1}},
		{0, 8, 5, []int{34, 0x81, 77, 1, 36, 0, 37, 0, 5, 1}},
		{3, 1, 2, []int{52, 0x11, 53, 4, 54, 0, 55, 0, 2, 4}},
		{3, 3, 3, []int{52, 0x31, 65, 4, 54, 0, 55, 0, 3, 4}},
		{3, 5, 4, []int{52, 0x51, 77, 4, 54, 0, 55, 0, 4, 4}},
		{6, 2, 3, []int{70, 0x21, 77, 7, 72, 0, 73, 0, 3, 7}},
		{7, 1, 2, []int{76, 0x11, 77, 8, 78, 0, 79, 0, 2, 8}},
	} {
		for _, vals := range [][]uint32{make([]uint32, place.Cells(eight)), blank(eight)} {
			v := view.Whole(vals)
			bin.Add(v, eight, x.p, x.n)
			trial.WantCells(t, v, []int{x.read}, x.writes...)
		}
	}
}

// P14.1: into a bin with spans the span goes ahead of all others.
func TestAddIntoABinWithSpans(t *testing.T) {
	v := view.Whole(put(eight, blank(eight), 1, 6, 0x21, 3, 0x21))
	bin.Add(v, eight, 0, 3)
	trial.WantCells(t, v, []int{3}, 34, 0x31, 47, 1, 36, 7, 37, 0, 73, 1, 3, 1)
	wantFind(t, v, eight, 2, 0)
	wantFind(t, v, eight, 3, 0)
	bin.Add(v, eight, 1, 2)
	trial.WantCells(t, v, []int{3}, 34, 0x31, 47, 2, 36, 7, 37, 2, 73, 1, 3, 2, 40, 0x21, 42, 1, 43, 0)
	wantFind(t, v, eight, 2, 1)
	wantFind(t, v, eight, 3, 0)
}

// P14.1: a bin that leads to no page is taken on: Prev of none is put.
func TestAddWhereTheBinLeadsToNoPage(t *testing.T) {
	for _, far := range noLinks {
		vals := blank(eight)
		vals[4] = far
		v := view.Whole(vals)
		bin.Add(v, eight, 2, 5)
		trial.WantCells(t, v, []int{4}, 46, 0x51, 71, 3, 48, int(far), 49, 0, 4, 3)
	}
}

// spans are the spans that may be: of each page, and each number of pages from there on, or of every so many, where there are many.
func spans(c api.Config) iter.Seq2[int, int] {
	step := max(1, c.Pages/40)
	return func(yield func(int, int) bool) {
		for p := 0; p < c.Pages; p += step {
			for n := 1; n <= c.Pages-p; n += step {
				if !yield(p, n) {
					return
				}
			}
			if !yield(p, c.Pages-p) {
				return
			}
		}
	}
}

// P14.1: each number of pages, at each page, of right configurations.
func TestAddOfEach(t *testing.T) {
	for _, c := range rights {
		for p, n := range spans(c) {
			v := view.Whole(make([]uint32, place.Cells(c)))
			bin.Add(v, c, p, n)
			trial.WantCells(t, v, []int{place.Bin(of(n))}, plainAdd(c, p, n)...)
		}
	}
}

// plainAdd is what Add writes into an empty bin.
func plainAdd(c api.Config, p, n int) []int {
	writes := []int{place.Info(c, p), int(trial.Free(n).Value()), place.Foot(c, p+n-1), p + 1, place.Next(c, p), 0, place.Prev(c, p), 0, place.Bin(of(n)), p + 1}
	if n == 1 {
		// Info and Foot are those of one page.
		writes[2] = writes[0] + 1
	}
	return writes
}

// wantNoAdd asks whether Add reads and writes nothing, and misses nothing.
func wantNoAdd(t *testing.T, c api.Config, p, n int) {
	t.Helper()
	for _, v := range []*view.View{view.Whole(make([]uint32, 100)), view.Whole(trial.Rising(100)), view.Known(100, nil)} {
		bin.Add(v, c, p, n)
		trial.WantCells(t, v, nil)
	}
}

// P14.1: at a page that is none nothing is read or written, whatever the configuration is.
func TestAddAtNoPage(t *testing.T) {
	for _, c := range slices.Concat(rights, wrongs, pageless) {
		for _, p := range append([]int{c.Pages, c.Pages + 1}, noPages...) {
			if p >= 0 && p < c.Pages {
				continue
			}
			for _, n := range []int{1, 2, 0, -1, 1 - p, -p, c.Pages - p, c.Pages, math.MaxInt, math.MinInt} {
				wantNoAdd(t, c, p, n)
			}
		}
	}
	for _, c := range pageless {
		for _, p := range []int{0, 2} {
			for _, n := range []int{1, 8, math.MaxInt} {
				wantNoAdd(t, c, p, n)
			}
		}
	}
}

// P14.1: of no pages, of fewer, and of more than there are from the page on, nothing is read or written, also where the sum is beyond an int.
func TestAddOfNoPages(t *testing.T) {
	for _, c := range slices.Concat(rights, wrongs) {
		for _, p := range []int{0, 1, 2, c.Pages / 2, c.Pages - 2, c.Pages - 1} {
			if p < 0 || p >= c.Pages {
				continue
			}
			most := c.Pages - p
			for _, n := range append([]int{most + 1, most + 2, most + 256, most + 1<<32, math.MaxInt - p, math.MaxInt - p + 1}, noCounts...) {
				if n < 1 || n > most {
					wantNoAdd(t, c, p, n)
				}
			}
		}
	}
}

// P14.1: of a configuration that is not right just the bin is read, and put: all cells of its pages are none. Of more pages than a heap may have there is no bin, either.
func TestAddOfAWrongConfiguration(t *testing.T) {
	for _, c := range wrongs {
		for _, p := range []int{0, 1, 2, c.Pages/2 - 1, c.Pages - 1} {
			if p < 0 || p >= c.Pages {
				continue
			}
			for _, n := range []int{1, 2, 3, (c.Pages - p) / 2, 1023, 1024, 1025, 1026, 2048, c.Pages - p} {
				if n >= 1 && n <= c.Pages-p {
					wantBinPut(t, c, p, n)
				}
			}
		}
	}
}

// wantBinPut asks whether Add reads and puts just the bin, if there is one.
func wantBinPut(t *testing.T, c api.Config, p, n int) {
	t.Helper()
	for _, h := range []uint32{0, 1, 3, math.MaxUint32} {
		vals := trial.Rising(100)
		for k := range 11 {
			vals[place.Bin(k)] = h
		}
		v := view.Whole(vals)
		bin.Add(v, c, p, n)
		if k := of(n); k >= 0 {
			trial.WantCells(t, v, []int{2 + k}, 2+k, p+1)
		} else {
			trial.WantCells(t, v, nil)
		}
	}
}

// P14.1 to P14.3: a configuration that is not right may have very many pages. A page's link is a value of a cell: so those are asked that have one.
func TestVeryManyPages(t *testing.T) {
	for _, c := range append([]api.Config{{Threads: 1, Pages: 1 << 12, Shift: 10}}, vast...) {
		for _, p := range []int{2, 1 << 11, 1 << 16, 1 << 31, math.MaxUint32 - 1} {
			if p >= c.Pages {
				continue
			}
			for _, n := range []int{1, 2, 1024, 1025, c.Pages - p - 1, c.Pages - p} {
				if n <= c.Pages-p {
					wantBinPut(t, c, p, n)
				}
			}
			v := view.Whole(make([]uint32, 100))
			bin.Add(v, c, p, c.Pages-p+1)
			bin.Add(v, c, p, math.MaxInt)
			wantDrop(t, v, c, p, 0)
			trial.WantCells(t, v, nil)
			bin.Add(v, c, p, 2)
			for _, n := range []int{1, 1025, c.Pages - 1, c.Pages} {
				wantFind(t, v, c, n, p)
			}
			for _, n := range []int{4, 512, 1024} {
				wantFind(t, v, c, n, -1)
			}
		}
	}
}

// P14.2: what Drop reads and writes of the only span of a bin, of the first one, the last one, and one between two; Info and Foot stay as they are.
func TestDrop(t *testing.T) {
	vals := put(eight, blank(eight), 3, 0, 0x81)
	v := view.Whole(vals)
	wantDrop(t, v, eight, 0, 8)
	trial.WantCells(t, v, []int{34, 36, 37}, 5, 0, 36, 0, 37, 0)

	vals = put(eight, blank(eight), 1, 6, 0x21, 0, 0x31, 4, 0x21)
	v = view.Whole(vals)
	wantDrop(t, v, eight, 6, 2)
	trial.WantCells(t, v, []int{70, 72, 73}, 3, 1, 37, 0, 72, 0, 73, 0)
	v = view.Whole(vals)
	wantDrop(t, v, eight, 0, 3)
	trial.WantCells(t, v, []int{34, 36, 37}, 72, 5, 61, 7, 36, 0, 37, 0)
	v = view.Whole(vals)
	wantDrop(t, v, eight, 4, 2)
	trial.WantCells(t, v, []int{58, 60, 61}, 36, 0, 60, 0, 61, 0)

	vals = put(eight, blank(eight), 0, 7, 0x11)
	v = view.Whole(vals)
	wantDrop(t, v, eight, 7, 1)
	trial.WantCells(t, v, []int{76, 78, 79}, 2, 0, 78, 0, 79, 0)
}

// P14.2: behind Add Drop tells each number of pages, at each page, and leaves the bin empty.
func TestDropOfEach(t *testing.T) {
	for _, c := range rights {
		for p, n := range spans(c) {
			v := view.Whole(make([]uint32, place.Cells(c)))
			bin.Add(v, c, p, n)
			wantDrop(t, v, c, p, n)
			writes := plainAdd(c, p, n)
			writes[len(writes)-1] = 0
			trial.WantCells(t, v, []int{place.Bin(of(n))}, writes...)
		}
	}
}

// P14.2: the bin is that of the Len that the info tells, also where so many pages are not there, or the span is in another bin, or in none.
func TestDropOfWhatIsNoSpan(t *testing.T) {
	for n := 1; n <= 1024; n++ {
		vals := make([]uint32, place.Cells(eight))
		vals[76] = trial.Free(n).Value()
		v := view.Whole(vals)
		wantDrop(t, v, eight, 7, n)
		trial.WantCells(t, v, []int{76, 78, 79}, 2+of(n), 0, 78, 0, 79, 0)
	}
	vals := put(eight, blank(eight), 1, 2, 0x81, 5, 0x21)
	v := view.Whole(vals)
	wantDrop(t, v, eight, 2, 8)
	trial.WantCells(t, v, []int{46, 48, 49}, 5, 6, 67, 0, 48, 0, 49, 0)
}

// P14.2: where Next or Prev leads to no page nothing is put there.
func TestDropWhereLinksLeadToNoPage(t *testing.T) {
	for _, far := range noLinks {
		vals := put(eight, blank(eight), 1, 6, 0x21, 0, 0x31, 4, 0x21)
		vals[36] = far
		v := view.Whole(vals)
		wantDrop(t, v, eight, 0, 3)
		trial.WantCells(t, v, []int{34, 36, 37}, 72, int(far), 36, 0, 37, 0)

		vals = put(eight, blank(eight), 1, 6, 0x21, 0, 0x31, 4, 0x21)
		vals[37] = far
		v = view.Whole(vals)
		wantDrop(t, v, eight, 0, 3)
		trial.WantCells(t, v, []int{34, 36, 37}, 61, int(far), 36, 0, 37, 0)
	}
}

// P14.2: of a page at which no free span begins just Info is read, nothing is written, and 0 is told: also of the info of another kind, and of a value that is none.
func TestDropWhereNoFreeSpanBegins(t *testing.T) {
	for _, c := range rights {
		for _, p := range []int{0, 1, 2, c.Pages - 2, c.Pages - 1} {
			for _, val := range append(slices.Clone(noFree), trial.Used(1).Value(), trial.Used(2).Value(), trial.Slab(0, 0, 0).Value(), trial.Slab(8, 0, 0).Value()) {
				for _, vals := range [][]uint32{make([]uint32, place.Cells(c)), trial.Rising(place.Cells(c))} {
					vals[place.Info(c, p)] = val
					v := view.Whole(vals)
					wantDrop(t, v, c, p, 0)
					trial.WantCells(t, v, []int{place.Info(c, p)})
				}
			}
		}
	}
}

// P14.2: of a page that is none, and of a configuration that is not right, nothing is read or written.
func TestDropAtNoPage(t *testing.T) {
	for _, c := range slices.Concat(rights, wrongs, pageless) {
		for _, p := range append([]int{0, 1, 2, c.Pages - 1, c.Pages, c.Pages + 1}, noPages...) {
			if place.Cells(c) > 0 && p >= 0 && p < c.Pages {
				continue
			}
			all := make([]uint32, 8192)
			for i := range all {
				all[i] = trial.Free(1).Value()
			}
			for _, v := range []*view.View{view.Whole(all), view.Known(100, nil)} {
				wantDrop(t, v, c, p, 0)
				trial.WantCells(t, v, nil)
			}
		}
	}
}

// P14.3: the first span in the bin of n that is long enough; behind each one that is shorter Next is read.
func TestFindInTheBinOfN(t *testing.T) {
	vals := put(eight, blank(eight), 1, 6, 0x21, 0, 0x31, 4, 0x21, 2, 0x31)
	v := view.Whole(vals)
	wantFind(t, v, eight, 2, 6)
	trial.WantCells(t, v, []int{3, 70})
	v = view.Whole(vals)
	wantFind(t, v, eight, 3, 0)
	trial.WantCells(t, v, []int{3, 70, 72, 34})

	vals = put(eight, blank(eight), 2, 7, 0x41, 5, 0x51, 1, 0x61, 3, 0x71)
	for _, x := range []struct {
		n, page int
		reads   []int
	}{
		{4, 7, []int{4, 76}}, {5, 5, []int{4, 76, 78, 64}}, {6, 1, []int{4, 76, 78, 64, 66, 40}},
		{7, 3, []int{4, 76, 78, 64, 66, 40, 42, 52}},
	} {
		v = view.Whole(vals)
		wantFind(t, v, eight, x.n, x.page)
		trial.WantCells(t, v, x.reads)
	}
}

// P14.3: the last page of a list of all pages is looked at, too.
func TestFindAtTheEndOfAListOfAllPages(t *testing.T) {
	for _, c := range rights {
		vals := blank(c)
		var pages []int
		for p := range c.Pages {
			pages = append(pages, p)
			vals[place.Info(c, p)] = trial.Free(2).Value()
		}
		trial.Heap{Config: c, Vals: vals}.Relink(place.Bin(1), pages...)
		vals[place.Info(c, c.Pages-1)] = trial.Free(3).Value()
		wantFind(t, view.Whole(vals), c, 3, c.Pages-1)
	}
}

// P14.3: where the bin of n has shorter spans only, or none, it is the first span of the next bin that is not empty: its info is not read.
func TestFindInTheBinsBehind(t *testing.T) {
	vals := put(eight, blank(eight), 1, 6, 0x21, 0, 0x21)
	v := view.Whole(vals)
	wantFind(t, v, eight, 3, -1)
	trial.WantCells(t, v, []int{3, 70, 72, 34, 36, 4, 5, 6, 7, 8, 9, 10, 11, 12})

	put(eight, vals, 2, 2, 0x41)
	put(eight, vals, 3, 3, 0x81)
	v = view.Whole(vals)
	wantFind(t, v, eight, 3, 2)
	trial.WantCells(t, v, []int{3, 70, 72, 34, 36, 4})

	v = view.Whole(vals)
	wantFind(t, v, eight, 1, 6)
	trial.WantCells(t, v, []int{2, 3})

	for k := 1; k < 11; k++ {
		for from := range k {
			if 1<<from > 8 {
				continue
			}
			vals = blank(eight)
			vals[place.Bin(k)] = 6
			v = view.Whole(vals)
			wantFind(t, v, eight, 1<<from, 5)
			var reads []int
			for cell := 2 + from; cell <= 2+k; cell++ {
				reads = append(reads, cell)
			}
			trial.WantCells(t, v, reads)
		}
	}
}

// P14.3: a bin ahead of that of n is not looked at.
func TestFindNotInTheBinsAhead(t *testing.T) {
	for n := 2; n <= 8; n++ {
		vals := make([]uint32, place.Cells(eight))
		for k := range of(n) {
			put(eight, vals, k, uint32(k), 0x81)
		}
		v := view.Whole(vals)
		wantFind(t, v, eight, n, -1)
		var reads []int
		for cell := 2 + of(n); cell <= 12; cell++ {
			reads = append(reads, cell)
		}
		trial.WantCells(t, v, reads)
	}
}

// P14.3: in the bin of n a page at which no free span begins is gone by, whatever its Len is.
func TestFindGoesByWhatIsNotFree(t *testing.T) {
	for _, val := range append(slices.Clone(noFree), 0x32, 0x82, trial.Free(3).Value()|1<<16, trial.Slab(3, 0, 0).Value()) {
		v := view.Whole(put(eight, blank(eight), 1, 6, val, 0, 0x31))
		wantFind(t, v, eight, 3, 0)
		trial.WantCells(t, v, []int{3, 70, 72, 34})
		v = view.Whole(put(eight, blank(eight), 0, 6, val))
		wantFind(t, v, eight, 1, -1)
		trial.WantCells(t, v, []int{2, 70, 72, 3, 4, 5, 6, 7, 8, 9, 10, 11, 12})
	}
}

// P14.3: in the bin of n what the info tells counts, also of a span that belongs into another bin.
func TestFindOfLongerSpansInTheBinOfN(t *testing.T) {
	for _, n := range []int{3, 4, 7, 8, 9, 1024} {
		v := view.Whole(put(eight, blank(eight), 1, 6, 0x21, 4, trial.Free(n).Value(), 0, 0x31))
		wantFind(t, v, eight, 3, 4)
		trial.WantCells(t, v, []int{3, 70, 72, 58})
	}
}

// P14.3: a list that runs in a circle is left behind as many looks as there are pages; then the bins behind it are looked at.
func TestFindInACircle(t *testing.T) {
	for _, c := range rights {
		for _, pages := range [][]int{{0}, {c.Pages - 1}, {2, 0}, {3, 1, 0}, {0, 1, 2, 3}} {
			for back := range pages {
				vals := blank(c)
				for _, p := range pages {
					vals[place.Info(c, p)] = 0x21
				}
				trial.Heap{Config: c, Vals: vals}.Relink(place.Bin(1), pages...)
				vals[place.Next(c, pages[len(pages)-1])] = uint32(pages[back] + 1)
				v := view.Whole(vals)
				wantFind(t, v, c, 3, -1)
				reads := []int{3}
				for _, p := range pages {
					reads = append(reads, place.Info(c, p), place.Next(c, p))
				}
				trial.WantCells(t, v, append(reads, 4, 5, 6, 7, 8, 9, 10, 11, 12))
				vals[8] = 2
				v = view.Whole(vals)
				wantFind(t, v, c, 3, 1)
				trial.WantCells(t, v, append(reads, 4, 5, 6, 7, 8))
			}
		}
	}
}

// P14.3: a circle in the last bin leads to no page.
func TestFindInACircleOfTheLastBin(t *testing.T) {
	c := api.Config{Threads: 1, Pages: 1024, Shift: 10}
	vals := put(c, blank(c), 10, 6, 0x21, 0, 0x21)
	vals[place.Next(c, 0)] = 7
	wantFind(t, view.Whole(vals), c, 1024, -1)
	vals[place.Info(c, 0)] = trial.Free(1024).Value()
	wantFind(t, view.Whole(vals), c, 1024, 0)
}

// P14.3: a link that leads to no page ends the list, at the bin and behind any page; in the bins behind it such a bin is gone by.
func TestFindWhereLinksLeadToNoPage(t *testing.T) {
	for _, far := range noLinks {
		vals := blank(eight)
		vals[3], vals[4], vals[6] = far, far, far
		v := view.Whole(vals)
		wantFind(t, v, eight, 3, -1)
		trial.WantCells(t, v, []int{3, 4, 5, 6, 7, 8, 9, 10, 11, 12})
		vals[7] = 8
		v = view.Whole(vals)
		wantFind(t, v, eight, 3, 7)
		trial.WantCells(t, v, []int{3, 4, 5, 6, 7})

		vals = put(eight, blank(eight), 1, 6, 0x21, 0, 0x21)
		vals[36] = far
		v = view.Whole(vals)
		wantFind(t, v, eight, 3, -1)
		trial.WantCells(t, v, []int{3, 70, 72, 34, 36, 4, 5, 6, 7, 8, 9, 10, 11, 12})
		vals[5] = 1
		v = view.Whole(vals)
		wantFind(t, v, eight, 3, 0)
		trial.WantCells(t, v, []int{3, 70, 72, 34, 36, 4, 5})
	}
}

// P14.3: of all pages there may be a span; of none, of fewer, and of more, nothing is read, and none is told.
func TestFindOfNoPages(t *testing.T) {
	for _, c := range rights {
		vals := make([]uint32, place.Cells(c))
		for k := range 11 {
			vals[place.Bin(k)] = 1
		}
		vals[place.Info(c, 0)] = trial.Free(1024).Value()
		for _, n := range append([]int{c.Pages + 1, c.Pages + 256, c.Pages + 1<<32}, noCounts...) {
			for _, v := range []*view.View{view.Whole(vals), view.Known(len(vals), nil)} {
				wantFind(t, v, c, n, -1)
				trial.WantCells(t, v, nil)
			}
		}
		v := view.Whole(vals)
		wantFind(t, v, c, c.Pages, 0)
		trial.WantCells(t, v, []int{place.Bin(of(c.Pages)), place.Info(c, 0)})
	}
	for _, c := range pageless {
		for _, n := range append([]int{1, 2, 8}, noCounts...) {
			v := view.Whole([]uint32{1, 1, 1, 1, 1, 1, 1, 1, 1, 1, 1, 1, 1, 1, 1})
			wantFind(t, v, c, n, -1)
			trial.WantCells(t, v, nil)
		}
	}
}

// P14.3: of a configuration that is not right the bin of n has no infos, and so no spans; of those behind it the links are told. Of more pages than a heap may have the bins are looked at from the first one on.
func TestFindOfAWrongConfiguration(t *testing.T) {
	for _, c := range wrongs {
		for _, n := range []int{1, 2, 3, 8, 1023, 1024, 1025, 2048, c.Pages} {
			if n > c.Pages {
				wantFind(t, view.Whole([]uint32{1, 1, 1, 1, 1, 1, 1, 1, 1, 1, 1, 1, 1}), c, n, -1)
				continue
			}
			all := trial.Rising(100)
			for k := range 11 {
				all[place.Bin(k)] = uint32(min(3, c.Pages))
			}
			v := view.Whole(all)
			plain{view.Whole(all), c}.wantDone(t, v, found, 0, n)
			want := -1
			if of(n) < 10 {
				want = min(3, c.Pages) - 1
			}
			wantFind(t, v, c, n, want)
			for k := range 11 {
				one := trial.Rising(100)
				one[place.Bin(k)] = 1
				plain{view.Whole(one), c}.wantDone(t, view.Whole(one), found, 0, n)
			}
		}
	}
}

// P14.3: Find of what was put; and it writes nothing.
func TestFindOfWhatWasPut(t *testing.T) {
	v := view.Whole(make([]uint32, place.Cells(eight)))
	v.Put(3, 2)
	v.Put(40, 0x21)
	v.Put(42, 4)
	v.Put(52, 0x31)
	wantFind(t, v, eight, 3, 3)
	wantFind(t, v, eight, 2, 1)
	trial.WantCells(t, v, nil, 3, 2, 40, 0x21, 42, 4, 52, 0x31)
}

// P14.1 to P14.3: a View that knows less tells what it misses, as the reads come; from there on nothing is put.
func TestMissing(t *testing.T) {
	vals := put(eight, blank(eight), 1, 6, 0x21, 0, 0x21, 4, 0x31)
	// Ahead of what Add reads it puts Info and Foot.
	trial.WantReads(t, vals, func(v *view.View) { bin.Add(v, eight, 2, 3) }, []int{3}, 2)
	trial.WantReads(t, vals, func(v *view.View) { bin.Drop(v, eight, 0) }, []int{34, 36, 37})
	trial.WantReads(t, vals, func(v *view.View) { bin.Find(v, eight, 3) }, []int{3, 70, 72, 34, 36, 58})
	trial.WantReads(t, vals, func(v *view.View) { bin.Find(v, eight, 4) }, []int{4, 5, 6, 7, 8, 9, 10, 11, 12})
}

// P14.2, P14.3: what was told, where a cell is missing: of an info that is not known 0, and no page; of a page's links the Len that was read ahead of them.
func TestWhatIsToldOfMissingCells(t *testing.T) {
	vals := put(eight, blank(eight), 1, 6, 0x21, 0, 0x21, 4, 0x31)
	vals[8] = 2
	for _, x := range []struct{ lack, told int }{{34, 0}, {36, 2}, {37, 2}} {
		v := trial.Lacking(vals, x.lack)
		wantDrop(t, v, eight, 0, x.told)
	}
	for _, lack := range []int{3, 70, 72, 34, 36, 58} {
		v := trial.Lacking(vals, lack)
		wantFind(t, v, eight, 3, -1)
	}
	for _, lack := range []int{4, 5, 6, 7, 8} {
		v := trial.Lacking(vals, lack)
		wantFind(t, v, eight, 4, -1)
	}
	v := trial.Lacking(vals, 9)
	wantFind(t, v, eight, 4, 1)
}

// P14.1 to P14.3: nil, and a View without cells, have no bins.
func TestViewsWithoutCells(t *testing.T) {
	for _, v := range []*view.View{nil, new(view.View), view.Whole(nil), view.Known(0, nil), view.Known(-5, nil)} {
		for _, c := range slices.Concat(rights, wrongs, pageless) {
			for _, p := range append([]int{0, 2}, noPages...) {
				for _, n := range append([]int{1, 8, c.Pages}, noCounts...) {
					bin.Add(v, c, p, n)
					wantDrop(t, v, c, p, 0)
					wantFind(t, v, c, n, -1)
				}
			}
		}
		trial.WantCells(t, v, nil)
	}
}

// P14.1 to P14.3: any pages, numbers and configurations: it ends, and does not panic.
func TestAnyArguments(t *testing.T) {
	vals := put(eight, blank(eight), 1, 6, 0x21, 0, 0x21, 4, 0x31)
	for _, c := range slices.Concat(rights, wrongs, pageless, vast) {
		for _, p := range append([]int{0, 2}, noPages...) {
			for _, n := range append([]int{1, 3, c.Pages, c.Pages - p}, noCounts...) {
				v := view.Whole(vals)
				bin.Add(v, c, p, n)
				bin.Find(v, c, n)
				bin.Drop(v, c, p)
				bin.Find(v, c, n)
			}
		}
	}
}

// P14.1 to P14.3: values by chance, of infos of each kind and of none, of links that lead to pages, and to none: what is read, put, missing and told is what the chapter's lines say.
func TestAnyValues(t *testing.T) {
	for seed := range 6000 {
		by := trial.Chance(seed)
		c := eight
		switch by.Next(8) {
		case 0:
			c = wrongs[by.Next(len(wrongs))]
		case 1:
			c = rights[by.Next(4)]
		}
		// Fewer cells than a configuration has, and more, may be those of a View.
		n := place.Cells(eight) + by.Pick(0, 0, 0, -9, -30, 20)
		vals := make([]uint32, n)
		for i := range vals {
			vals[i] = by.Link(eight.Pages)
		}
		for p := range eight.Pages {
			if i := place.Info(eight, p); i < n {
				vals[i] = by.Info(eight.Pages)
			}
		}
		v, as := by.Twins(vals)
		for range 1 + by.Next(8) {
			p := by.Pick(by.Next(eight.Pages), by.Next(eight.Pages), by.Next(eight.Pages), -1, 8, 9)
			n := by.Pick(1+by.Next(eight.Pages), 1+by.Next(eight.Pages), 1+by.Next(eight.Pages), 0, 8, 9, 1025)
			plain{as, c}.wantDone(t, v, kind(by.Next(int(kinds))), p, n)
		}
	}
}
