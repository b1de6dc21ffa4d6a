package large_test

import (
	"slices"
	"testing"

	"nacre/api"
	"nacre/large"
	"nacre/trial"
	"nacre/view"
)

// eight is the configuration of eight pages whose cells some tests write out: Info of the page p is the cell 34 and 6 times p, Foot, Next and Prev the three behind it; Bin(k) is the cell 2 and k, Free the cell 0, Live the cell 1.
var eight = api.Config{Threads: 1, Pages: 8, Shift: 10}

// Configurations of each sort, and numbers that are no page's.
var (
	rights  = trial.Rights(eight)
	wrong   = slices.Concat(trial.Wrongs(eight), trial.Pageless(eight), trial.Vast(eight))
	noPages = trial.NoPages()
)

// What heaps are laid of.
var (
	free = trial.Free
	used = trial.Used
	slab = trial.Slab
)

// laid is the values of a heap of eight pages.
func laid(pieces ...trial.Piece) []uint32 { return trial.Lay(eight, pieces...).Vals }

// wantAlloc asks whether Alloc tells this page; none, if it is below 0.
func wantAlloc(t *testing.T, v *view.View, c api.Config, n, page int) {
	t.Helper()
	got, ok := large.Alloc(v, c, n)
	if page < 0 && (got != 0 || ok) || page >= 0 && (got != page || !ok) {
		t.Fatalf("Alloc(%v, %d) = %d, %t, not %d", c, n, got, ok, page)
	}
}

// wantResize asks whether Resize tells this.
func wantResize(t *testing.T, v *view.View, c api.Config, p, m int, want bool) {
	t.Helper()
	if got := large.Resize(v, c, p, m); got != want {
		t.Fatalf("Resize(%v, %d, %d) = %t", c, p, m, got)
	}
}

// P19.1 to P19.3: the chapter's example: of eight free pages three are allocated, and the block is resized to five, and not to nine; it is freed then.
func TestExample(t *testing.T) {
	vals := laid(free(8))
	v := view.Whole(vals)
	wantAlloc(t, v, eight, 3, 0)
	trial.WantCells(t, v, []int{3, 4, 5, 34, 36, 37, 0, 1},
		5, 0, 36, 0, 37, 0, 34, 0x32, 47, 1, 52, 0x51, 77, 4, 54, 0, 55, 0, 4, 4, 0, 5, 1, 1)
	wantResize(t, v, eight, 0, 5, true)
	resized := []int{5, 0, 36, 0, 37, 0, 34, 0x52, 47, 0, 52, 0, 77, 6, 54, 0, 55, 0, 4, 0, 0, 3, 1, 1, 59, 1, 64, 0x31, 66, 0, 67, 0, 3, 6}
	trial.WantCells(t, v, []int{3, 4, 5, 34, 36, 37, 0, 1}, resized...)
	wantResize(t, v, eight, 0, 9, false)
	trial.WantCells(t, v, []int{3, 4, 5, 34, 36, 37, 0, 1}, resized...)
	large.Free(v, eight, 0)
	if got := v.Vals(); !slices.Equal(got, vals) {
		t.Fatalf("the values are %v, not %v", got, vals)
	}
}

// P19.1: what Alloc reads and writes: of a span of just so many pages, of longer ones, of the first one in its bin that is long enough, at the last page, and of all pages; the live blocks, also those that are slots, are one more.
func TestAlloc(t *testing.T) {
	twoBins := laid(free(3), used(1), free(4))
	oneBin := laid(free(2), used(1), free(3), used(2))
	for _, x := range []struct {
		vals    []uint32
		n, page int
		reads   []int
		writes  []int
	}{
		{twoBins, 3, 0, []int{3, 34, 36, 37, 0, 1}, []int{3, 0, 36, 0, 37, 0, 34, 0x32, 47, 1, 0, 4, 1, 2}},
		{twoBins, 2, 0, []int{3, 34, 36, 37, 2, 0, 1}, []int{3, 0, 36, 0, 37, 0, 34, 0x22, 41, 1, 46, 0x11, 47, 3, 48, 0, 49, 0, 2, 3, 0, 5, 1, 2}},
		{twoBins, 1, 0, []int{2, 3, 34, 36, 37, 0, 1}, []int{3, 2, 36, 0, 37, 0, 34, 0x12, 35, 1, 40, 0x21, 47, 2, 42, 0, 43, 0, 0, 6, 1, 2}},
		{twoBins, 4, 4, []int{4, 58, 60, 61, 0, 1}, []int{4, 0, 60, 0, 61, 0, 58, 0x42, 77, 5, 0, 3, 1, 2}},
		{oneBin, 3, 3, []int{3, 34, 36, 52, 54, 55, 0, 1}, []int{36, 0, 54, 0, 55, 0, 52, 0x32, 65, 4, 0, 2, 1, 3}},
		{laid(slab(4, 7, 5), used(6), free(1)), 1, 7, []int{2, 76, 78, 79, 0, 1}, []int{2, 0, 78, 0, 79, 0, 76, 0x12, 77, 8, 0, 0, 1, 4}},
		{laid(free(8)), 8, 0, []int{5, 34, 36, 37, 0, 1}, []int{5, 0, 36, 0, 37, 0, 34, 0x82, 77, 1, 0, 0, 1, 1}},
	} {
		v := view.Whole(x.vals)
		wantAlloc(t, v, eight, x.n, x.page)
		trial.WantCells(t, v, x.reads, x.writes...)
	}
}

// P19.1: where no free span has so many pages, though all of them together may have, none is told, and nothing is put: also Live is not read.
func TestAllocWhereThereIsNoRoom(t *testing.T) {
	for _, x := range []struct {
		vals  []uint32
		n     int
		reads []int
	}{
		{laid(free(3), used(1), free(4)), 5, []int{4, 58, 60, 5, 6, 7, 8, 9, 10, 11, 12}},
		{laid(free(2), used(1), free(2), used(3)), 3, []int{3, 34, 36, 52, 54, 4, 5, 6, 7, 8, 9, 10, 11, 12}},
		{laid(used(7), slab(8, 1, 1)), 1, []int{2, 3, 4, 5, 6, 7, 8, 9, 10, 11, 12}},
		{laid(used(1), free(7)), 8, []int{5, 6, 7, 8, 9, 10, 11, 12}},
	} {
		v := view.Whole(x.vals)
		wantAlloc(t, v, eight, x.n, -1)
		trial.WantCells(t, v, x.reads)
	}
}

// P19.1: of no pages, of fewer, and of more than there are none is told, and nothing is read or put, nor missing.
func TestAllocOfNoPages(t *testing.T) {
	for _, c := range rights {
		vals := trial.Lay(c, free(c.Pages)).Vals
		for _, n := range append([]int{0, c.Pages + 1, c.Pages + 2, c.Pages + 256, c.Pages + 1<<32}, noPages...) {
			for _, v := range []*view.View{view.Whole(vals), view.Known(len(vals), nil)} {
				wantAlloc(t, v, c, n, -1)
				trial.WantCells(t, v, nil)
			}
		}
	}
}

// P19.2: what Free reads and writes: between what is not free, behind a free span, ahead of one, between two, at the first page, at the last one, and of all pages; the live blocks, also those that are slots, are one less.
func TestFree(t *testing.T) {
	for _, x := range []struct {
		vals   []uint32
		p      int
		reads  []int
		writes []int
	}{
		{laid(used(3), used(2), used(3)), 3, []int{52, 47, 34, 64, 3, 0, 1}, []int{52, 0x21, 59, 4, 54, 0, 55, 0, 3, 4, 0, 2, 1, 2}},
		{laid(free(3), used(2), used(3)), 3, []int{52, 47, 34, 36, 37, 64, 4, 0, 1}, []int{3, 0, 36, 0, 37, 0, 52, 0, 47, 0, 34, 0x51, 59, 1, 4, 1, 0, 5, 1, 1}},
		{laid(used(3), used(2), free(3)), 3, []int{52, 47, 34, 64, 66, 67, 4, 0, 1}, []int{3, 0, 66, 0, 67, 0, 64, 0, 59, 0, 52, 0x51, 77, 4, 54, 0, 55, 0, 4, 4, 0, 5, 1, 1}},
		{laid(free(3), used(2), free(3)), 3, []int{52, 47, 34, 36, 37, 64, 66, 5, 0, 1}, []int{3, 0, 67, 0, 36, 0, 37, 0, 52, 0, 47, 0, 66, 0, 64, 0, 59, 0, 34, 0x81, 77, 1, 5, 1, 0, 8, 1, 0}},
		{laid(slab(4, 7, 5), used(1), slab(8, 3, 3), used(5)), 1, []int{40, 35, 34, 46, 2, 0, 1}, []int{40, 0x11, 41, 2, 42, 0, 43, 0, 2, 2, 0, 1, 1, 5}},
		{laid(used(2), used(6)), 0, []int{34, 46, 3, 0, 1}, []int{34, 0x21, 41, 1, 36, 0, 37, 0, 3, 1, 0, 2, 1, 1}},
		{laid(free(2), used(6)), 2, []int{46, 41, 34, 36, 37, 5, 0, 1}, []int{3, 0, 36, 0, 37, 0, 46, 0, 41, 0, 34, 0x81, 77, 1, 5, 1, 0, 8, 1, 0}},
		{laid(used(8)), 0, []int{34, 5, 0, 1}, []int{34, 0x81, 77, 1, 36, 0, 37, 0, 5, 1, 0, 8, 1, 0}},
	} {
		v := view.Whole(x.vals)
		large.Free(v, eight, x.p)
		trial.WantCells(t, v, x.reads, x.writes...)
	}
}

// P19.3: a block that has so many pages already is left as it is: its length alone is read, also where it has all pages there are.
func TestResizeToAsMany(t *testing.T) {
	for _, x := range []struct {
		vals       []uint32
		p, m, read int
	}{
		{laid(used(3), free(2), used(3)), 0, 3, 34},
		{laid(free(2), used(1), free(5)), 2, 1, 46},
		{laid(slab(0, 1, 1), used(7)), 1, 7, 40},
		{laid(used(8)), 0, 8, 34},
	} {
		v := view.Whole(x.vals)
		wantResize(t, v, eight, x.p, x.m, true)
		trial.WantCells(t, v, []int{x.read})
	}
}

// P19.3: what Resize to fewer pages reads and writes: ahead of what is not free, ahead of a free span, at the last page, to one page, and all but one; Live stays as it is.
func TestResizeToFewer(t *testing.T) {
	for _, x := range []struct {
		vals   []uint32
		p, m   int
		reads  []int
		writes []int
	}{
		{laid(used(5), used(3)), 0, 2, []int{34, 64, 3, 0}, []int{34, 0x22, 41, 1, 46, 0x31, 59, 3, 48, 0, 49, 0, 3, 3, 0, 3}},
		{laid(used(5), free(3)), 0, 4, []int{34, 64, 66, 67, 4, 0}, []int{34, 0x42, 53, 1, 3, 0, 66, 0, 67, 0, 64, 0, 59, 0, 58, 0x41, 77, 5, 60, 0, 61, 0, 4, 5, 0, 4}},
		{laid(used(5), slab(8, 1, 1), used(2)), 0, 1, []int{34, 64, 4, 0}, []int{34, 0x12, 35, 1, 40, 0x41, 59, 2, 42, 0, 43, 0, 4, 2, 0, 4}},
		{laid(free(2), used(6)), 2, 1, []int{46, 4, 0}, []int{46, 0x12, 47, 3, 52, 0x51, 77, 4, 54, 0, 55, 0, 4, 4, 0, 7}},
		{laid(used(8)), 0, 7, []int{34, 2, 0}, []int{34, 0x72, 71, 1, 76, 0x11, 77, 8, 78, 0, 79, 0, 2, 8, 0, 1}},
	} {
		v := view.Whole(x.vals)
		wantResize(t, v, eight, x.p, x.m, true)
		trial.WantCells(t, v, x.reads, x.writes...)
	}
}

// P19.3: what Resize to more pages reads and writes, where there are pages enough: of the free span just so many, all but one, or one; up to the last page, to all pages; Live stays as it is.
func TestResizeToMore(t *testing.T) {
	between := laid(used(3), free(2), used(3))
	for _, x := range []struct {
		vals   []uint32
		p, m   int
		reads  []int
		writes []int
	}{
		{between, 0, 5, []int{34, 52, 54, 55, 0}, []int{3, 0, 54, 0, 55, 0, 52, 0, 47, 0, 34, 0x52, 59, 1, 0, 0}},
		{between, 0, 4, []int{34, 52, 54, 55, 2, 0}, []int{3, 0, 54, 0, 55, 0, 52, 0, 47, 0, 34, 0x42, 53, 1, 58, 0x11, 59, 5, 60, 0, 61, 0, 2, 5, 0, 1}},
		{laid(used(1), free(7)), 0, 8, []int{34, 40, 42, 43, 0}, []int{4, 0, 42, 0, 43, 0, 40, 0, 35, 0, 34, 0x82, 77, 1, 0, 0}},
		{laid(used(1), free(7)), 0, 2, []int{34, 40, 42, 43, 0}, []int{4, 3, 42, 0, 43, 0, 40, 0, 35, 0, 34, 0x22, 41, 1, 46, 0x61, 77, 3, 48, 0, 49, 0, 0, 6}},
		{laid(free(2), used(2), free(4)), 2, 5, []int{46, 58, 60, 61, 2, 0}, []int{4, 0, 60, 0, 61, 0, 58, 0, 53, 0, 46, 0x52, 71, 3, 76, 0x11, 77, 8, 78, 0, 79, 0, 2, 8, 0, 3}},
	} {
		v := view.Whole(x.vals)
		wantResize(t, v, eight, x.p, x.m, true)
		trial.WantCells(t, v, x.reads, x.writes...)
	}
}

// P19.3: where there is nothing behind the block, or what is there is not free, or not long enough, false is told, and nothing is put, up to as many pages as there are: what is free ahead of it, or elsewhere, does not help.
func TestResizeWhereThereIsNoRoom(t *testing.T) {
	for _, x := range []struct {
		vals  []uint32
		p, m  int
		reads []int
	}{
		{laid(free(3), used(5)), 3, 6, []int{52}},
		{laid(free(3), used(5)), 3, 8, []int{52}},
		{laid(used(3), used(5)), 0, 4, []int{34, 52}},
		{laid(used(3), used(1), free(4)), 0, 4, []int{34, 52}},
		{laid(used(3), slab(5, 31, 1), free(4)), 0, 4, []int{34, 52}},
		{laid(used(3), free(2), used(3)), 0, 6, []int{34, 52}},
		{laid(used(3), free(2), used(1), free(2)), 0, 8, []int{34, 52}},
		{laid(used(1), used(1), free(6)), 1, 8, []int{40, 46}},
	} {
		v := view.Whole(x.vals)
		wantResize(t, v, eight, x.p, x.m, false)
		trial.WantCells(t, v, x.reads)
	}
}

// P19.3: to no pages, to fewer, and to more than there are: false, and but the length nothing is read, whatever is behind the block.
func TestResizeToNoPages(t *testing.T) {
	for _, c := range rights {
		for _, pieces := range [][]trial.Piece{{used(c.Pages)}, {used(1), free(c.Pages - 1)}, {used(c.Pages - 1), free(1)}, {used(1), used(c.Pages - 1)}} {
			h := trial.Lay(c, pieces...)
			for _, m := range append([]int{0, c.Pages + 1, c.Pages + 2, c.Pages + 256, c.Pages + 1<<32}, noPages...) {
				v := view.Whole(h.Vals)
				wantResize(t, v, c, 0, m, false)
				trial.WantCells(t, v, []int{30 + 4*c.Threads})
			}
		}
	}
}

// P19.1 to P19.3: a View that knows less tells what it misses, as the reads come; from there on nothing is put.
func TestMissing(t *testing.T) {
	// Behind the reads stands how much was put ahead of each one.
	twoBins := laid(free(3), used(1), free(4))
	trial.WantReads(t, twoBins, func(v *view.View) { large.Alloc(v, eight, 2) }, []int{3, 34, 36, 37, 2, 0, 1}, 0, 0, 0, 0, 7, 10, 11)
	trial.WantReads(t, laid(free(8)), func(v *view.View) { large.Alloc(v, eight, 2) }, []int{3, 4, 5, 34, 36, 37, 0, 1}, 0, 0, 0, 0, 0, 0, 10, 11)
	trial.WantReads(t, twoBins, func(v *view.View) { large.Alloc(v, eight, 5) }, []int{4, 58, 60, 5, 6, 7, 8, 9, 10, 11, 12})
	trial.WantReads(t, laid(free(3), used(2), used(3)), func(v *view.View) { large.Free(v, eight, 3) }, []int{52, 47, 34, 36, 37, 64, 4, 0, 1}, 0, 0, 0, 0, 0, 5, 7, 8, 9)
	trial.WantReads(t, laid(used(8)), func(v *view.View) { large.Free(v, eight, 0) }, []int{34, 5, 0, 1}, 0, 2, 5, 6)
	trial.WantReads(t, laid(used(3), free(2), used(3)), func(v *view.View) { large.Resize(v, eight, 0, 3) }, []int{34})
	trial.WantReads(t, laid(used(5), free(3)), func(v *view.View) { large.Resize(v, eight, 0, 4) }, []int{34, 64, 66, 67, 4, 0}, 0, 2, 2, 2, 9, 12)
	trial.WantReads(t, laid(used(3), free(2), used(3)), func(v *view.View) { large.Resize(v, eight, 0, 4) }, []int{34, 52, 54, 55, 2, 0}, 0, 0, 0, 0, 9, 12)
	trial.WantReads(t, laid(used(3), free(2), used(3)), func(v *view.View) { large.Resize(v, eight, 0, 6) }, []int{34, 52})
	trial.WantReads(t, laid(used(3), free(2), used(3)), func(v *view.View) { large.Resize(v, eight, 0, 9) }, []int{34})
}

// P19.1, P19.3: what is told, where a cell is missing: none, or false, if it is asked whether there is room; else what was told of that.
func TestWhatIsToldOfMissingCells(t *testing.T) {
	vals := laid(used(3), free(3), used(2))
	for _, x := range []struct{ lack, page int }{{3, -1}, {52, -1}, {54, 3}, {55, 3}, {2, 3}, {0, 3}, {1, 3}} {
		wantAlloc(t, trial.Lacking(vals, x.lack), eight, 2, x.page)
	}
	for _, x := range []struct {
		lack, m int
		want    bool
	}{{34, 4, false}, {34, 2, false}, {34, 3, false}, {52, 4, false}, {54, 4, true}, {3, 4, true}, {0, 4, true}, {52, 3, true}, {52, 2, true}, {0, 2, true}} {
		wantResize(t, trial.Lacking(vals, x.lack), eight, 0, x.m, x.want)
	}
}

// P19.1 to P19.3: nil, and a View without cells, have no pages.
func TestViewsWithoutCells(t *testing.T) {
	for _, v := range []*view.View{nil, new(view.View), view.Whole(nil), view.Known(0, nil)} {
		for _, c := range rights {
			wantAlloc(t, v, c, 1, -1)
			wantAlloc(t, v, c, c.Pages, -1)
			large.Free(v, c, 0)
			large.Free(v, c, c.Pages-1)
			wantResize(t, v, c, 0, 1, false)
			wantResize(t, v, c, 1, c.Pages, false)
			trial.WantCells(t, v, nil)
		}
	}
}

// P19.1 to P19.3: any pages, numbers and configurations, at pages where a used span begins and at others, of values that are a heap's or none's: it ends, and does not panic.
func TestAnyArguments(t *testing.T) {
	heap := laid(used(2), free(2), slab(3, 1, 0), used(1), free(2))
	none := slices.Clone(heap)
	by := trial.Chance(1)
	for at := range none {
		if by.Next(3) == 0 {
			none[at] = by.Link(8)
		} else if at >= 34 && by.Next(2) == 0 {
			none[at] = by.Info(8)
		}
	}
	some := append([]int{0, 1, 2, 3, 4, 5, 6, 7, 8, 9, 1024}, noPages...)
	for _, c := range slices.Concat(rights, wrong) {
		for _, p := range some {
			for _, m := range slices.Concat(some, []int{-p, c.Pages, c.Pages - p}) {
				for _, vals := range [][]uint32{heap, none, nil} {
					v := view.Whole(vals)
					large.Alloc(v, c, m)
					large.Resize(v, c, p, m)
					large.Free(v, c, p)
					large.Resize(v, c, m, p)
					large.Free(v, c, m)
					large.Alloc(v, c, p)
				}
			}
		}
	}
}
