package span_test

import (
	"math"
	"slices"
	"testing"

	"nacre/api"
	"nacre/place"
	"nacre/span"
	"nacre/trial"
	"nacre/view"
)

// eight is the configuration of eight pages whose cells some tests write out: Info of the page p is the cell 34 and 6 times p, Foot, Next and Prev the three behind it; Bin(k) is the cell 2 and k, Free the cell 0.
var eight = api.Config{Threads: 1, Pages: 8, Shift: 10}

// Configurations of each sort, and numbers that are no page's.
var (
	rights   = trial.Rights(eight)
	wrongs   = trial.Wrongs(eight)
	pageless = trial.Pageless(eight)
	vast     = trial.Vast(eight)
	noPages  = trial.NoPages()
)

// What heaps are laid of.
var (
	free = trial.Free
	used = trial.Used
	slab = trial.Slab
)

// laid is the values of a heap of eight pages.
func laid(pieces ...trial.Piece) []uint32 { return trial.Lay(eight, pieces...).Vals }

// wantTake asks whether Take tells this page; none, if it is below 0.
func wantTake(t *testing.T, v *view.View, c api.Config, n, page int) {
	t.Helper()
	got, ok := span.Take(v, c, n)
	if page < 0 && (got != 0 || ok) || page >= 0 && (got != page || !ok) {
		t.Fatalf("Take(%v, %d) = %d, %t, not %d", c, n, got, ok, page)
	}
}

// wantGrow asks whether Grow tells this.
func wantGrow(t *testing.T, v *view.View, c api.Config, p, n, m int, want bool) {
	t.Helper()
	if got := span.Grow(v, c, p, n, m); got != want {
		t.Fatalf("Grow(%v, %d, %d, %d) = %t", c, p, n, m, got)
	}
}

// P15.1, P15.2: the chapter's example: of eight free pages three are taken, and released.
func TestExample(t *testing.T) {
	vals := laid(free(8))
	v := view.Whole(vals)
	wantTake(t, v, eight, 3, 0)
	trial.WantCells(t, v, []int{3, 4, 5, 34, 36, 37, 0}, 5, 0, 36, 0, 37, 0, 34, 0x32, 47, 1, 52, 0x51, 77, 4, 54, 0, 55, 0, 4, 4, 0, 5)
	span.Release(v, eight, 0, 3)
	trial.WantCells(t, v, []int{3, 4, 5, 34, 36, 37, 0}, 5, 1, 36, 0, 37, 0, 34, 0x81, 47, 0, 52, 0, 77, 1, 54, 0, 55, 0, 4, 0, 0, 8)
	if got := v.Vals(); !slices.Equal(got, vals) {
		t.Fatalf("the values are %v, not %v", got, vals)
	}
}

// P15.1: what Take reads and writes: of a span of just so many pages, of longer ones, of which one page is left, or more, of the first one in its bin that is long enough, and of one at the last page.
func TestTake(t *testing.T) {
	twoBins := laid(free(3), used(1), free(4))
	oneBin := laid(free(2), used(1), free(3), used(2))
	for _, x := range []struct {
		vals    []uint32
		n, page int
		reads   []int
		writes  []int
	}{
		{twoBins, 3, 0, []int{3, 34, 36, 37, 0}, []int{3, 0, 36, 0, 37, 0, 34, 0x32, 47, 1, 0, 4}},
		{twoBins, 2, 0, []int{3, 34, 36, 37, 2, 0}, []int{3, 0, 36, 0, 37, 0, 34, 0x22, 41, 1, 46, 0x11, 47, 3, 48, 0, 49, 0, 2, 3, 0, 5}},
		{twoBins, 1, 0, []int{2, 3, 34, 36, 37, 0}, []int{3, 2, 36, 0, 37, 0, 34, 0x12, 35, 1, 40, 0x21, 47, 2, 42, 0, 43, 0, 0, 6}},
		{twoBins, 4, 4, []int{4, 58, 60, 61, 0}, []int{4, 0, 60, 0, 61, 0, 58, 0x42, 77, 5, 0, 3}},
		{oneBin, 3, 3, []int{3, 34, 36, 52, 54, 55, 0}, []int{36, 0, 54, 0, 55, 0, 52, 0x32, 65, 4, 0, 2}},
		{oneBin, 2, 0, []int{3, 34, 36, 37, 0}, []int{3, 4, 55, 0, 36, 0, 37, 0, 34, 0x22, 41, 1, 0, 3}},
		{laid(used(7), free(1)), 1, 7, []int{2, 76, 78, 79, 0}, []int{2, 0, 78, 0, 79, 0, 76, 0x12, 77, 8, 0, 0}},
		{laid(free(8)), 8, 0, []int{5, 34, 36, 37, 0}, []int{5, 0, 36, 0, 37, 0, 34, 0x82, 77, 1, 0, 0}},
	} {
		v := view.Whole(x.vals)
		wantTake(t, v, eight, x.n, x.page)
		trial.WantCells(t, v, x.reads, x.writes...)
	}
}

// P15.1: where no free span has so many pages, though all of them together may have, none is told, and nothing is put.
func TestTakeWhereThereIsNoRoom(t *testing.T) {
	for _, x := range []struct {
		vals  []uint32
		n     int
		reads []int
	}{
		{laid(free(3), used(1), free(4)), 5, []int{4, 58, 60, 5, 6, 7, 8, 9, 10, 11, 12}},
		{laid(free(2), used(1), free(2), used(3)), 3, []int{3, 34, 36, 52, 54, 4, 5, 6, 7, 8, 9, 10, 11, 12}},
		{laid(used(8)), 1, []int{2, 3, 4, 5, 6, 7, 8, 9, 10, 11, 12}},
		{laid(used(1), free(7)), 8, []int{5, 6, 7, 8, 9, 10, 11, 12}},
	} {
		v := view.Whole(x.vals)
		wantTake(t, v, eight, x.n, -1)
		trial.WantCells(t, v, x.reads)
	}
}

// P15.1: of no pages, of fewer, and of more than there are none is told, and nothing is read or put, nor missing.
func TestTakeOfNoPages(t *testing.T) {
	for _, c := range rights {
		vals := trial.Lay(c, free(c.Pages)).Vals
		for _, n := range append([]int{0, c.Pages + 1, c.Pages + 2, c.Pages + 256, c.Pages + 1<<32}, noPages...) {
			for _, v := range []*view.View{view.Whole(vals), view.Known(len(vals), nil)} {
				wantTake(t, v, c, n, -1)
				trial.WantCells(t, v, nil)
			}
		}
	}
}

// P15.2: what Release reads and writes: between what is not free, behind a free span, ahead of one, between two, in one bin or in two, at the first page, at the last one, and of all pages.
func TestRelease(t *testing.T) {
	for _, x := range []struct {
		vals   []uint32
		p, n   int
		reads  []int
		writes []int
	}{
		{laid(used(3), used(2), used(3)), 3, 2, []int{47, 34, 64, 3, 0}, []int{52, 0x21, 59, 4, 54, 0, 55, 0, 3, 4, 0, 2}},
		{laid(free(3), used(2), used(3)), 3, 2, []int{47, 34, 36, 37, 64, 4, 0}, []int{3, 0, 36, 0, 37, 0, 52, 0, 47, 0, 34, 0x51, 59, 1, 4, 1, 0, 5}},
		{laid(used(3), used(2), free(3)), 3, 2, []int{47, 34, 64, 66, 67, 4, 0}, []int{3, 0, 66, 0, 67, 0, 64, 0, 59, 0, 52, 0x51, 77, 4, 54, 0, 55, 0, 4, 4, 0, 5}},
		{laid(free(3), used(2), free(3)), 3, 2, []int{47, 34, 36, 37, 64, 66, 5, 0}, []int{3, 0, 67, 0, 36, 0, 37, 0, 52, 0, 47, 0, 66, 0, 64, 0, 59, 0, 34, 0x81, 77, 1, 5, 1, 0, 8}},
		{laid(used(1), free(1), used(1), free(2), used(3)), 2, 1, []int{41, 40, 42, 43, 52, 54, 55, 4, 0}, []int{2, 0, 42, 0, 43, 0, 46, 0, 41, 0, 3, 0, 54, 0, 55, 0, 52, 0, 47, 0, 40, 0x41, 59, 2, 4, 2, 0, 4}},
		{laid(used(2), used(6)), 0, 2, []int{46, 3, 0}, []int{34, 0x21, 41, 1, 36, 0, 37, 0, 3, 1, 0, 2}},
		{laid(used(2), free(6)), 0, 2, []int{46, 48, 49, 5, 0}, []int{4, 0, 48, 0, 49, 0, 46, 0, 41, 0, 34, 0x81, 77, 1, 36, 0, 37, 0, 5, 1, 0, 8}},
		{laid(used(6), used(2)), 6, 2, []int{65, 34, 3, 0}, []int{70, 0x21, 77, 7, 72, 0, 73, 0, 3, 7, 0, 2}},
		{laid(free(6), used(2)), 6, 2, []int{65, 34, 36, 37, 5, 0}, []int{4, 0, 36, 0, 37, 0, 70, 0, 65, 0, 34, 0x81, 77, 1, 5, 1, 0, 8}},
		{laid(used(8)), 0, 8, []int{5, 0}, []int{34, 0x81, 77, 1, 36, 0, 37, 0, 5, 1, 0, 8}},
	} {
		v := view.Whole(x.vals)
		span.Release(v, eight, x.p, x.n)
		trial.WantCells(t, v, x.reads, x.writes...)
	}
}

// P15.2: a slab is no free span, neither the one that is released nor those beside it.
func TestReleaseOfSlabs(t *testing.T) {
	v := view.Whole(laid(slab(0, 1, 1), used(1), slab(8, 3, 0), used(5)))
	span.Release(v, eight, 1, 1)
	trial.WantCells(t, v, []int{35, 34, 46, 2, 0}, 40, 0x11, 41, 2, 42, 0, 43, 0, 2, 2, 0, 1)

	v = view.Whole(laid(free(2), slab(8, 3, 0), used(5)))
	v.Put(place.Taken(eight, 2), 0)
	span.Release(v, eight, 2, 1)
	trial.WantCells(t, v, []int{41, 34, 36, 37, 52, 0}, 51, 0, 3, 1, 36, 0, 37, 0, 46, 0, 41, 0, 34, 0x31, 47, 1, 0, 3)
}

// P15.2: a span goes ahead of those that are in its bin.
func TestReleaseIntoABinWithSpans(t *testing.T) {
	v := view.Whole(laid(free(2), used(1), used(3), used(2)))
	span.Release(v, eight, 6, 2)
	trial.WantCells(t, v, []int{65, 52, 3, 0}, 70, 0x21, 77, 7, 72, 1, 73, 0, 37, 7, 3, 7, 0, 4)
}

// P15.3: what Shrink reads and writes: ahead of what is not free, ahead of a free span, at the last page, to one page, and all but one; what is free ahead of the span stays so.
func TestShrink(t *testing.T) {
	for _, x := range []struct {
		vals    []uint32
		p, n, m int
		reads   []int
		writes  []int
	}{
		{laid(used(5), used(3)), 0, 5, 2, []int{64, 3, 0}, []int{34, 0x22, 41, 1, 46, 0x31, 59, 3, 48, 0, 49, 0, 3, 3, 0, 3}},
		{laid(used(5), free(3)), 0, 5, 4, []int{64, 66, 67, 4, 0}, []int{34, 0x42, 53, 1, 3, 0, 66, 0, 67, 0, 64, 0, 59, 0, 58, 0x41, 77, 5, 60, 0, 61, 0, 4, 5, 0, 4}},
		{laid(used(5), slab(8, 1, 1), used(2)), 0, 5, 1, []int{64, 4, 0}, []int{34, 0x12, 35, 1, 40, 0x41, 59, 2, 42, 0, 43, 0, 4, 2, 0, 4}},
		{laid(used(2), used(6)), 2, 6, 1, []int{4, 0}, []int{46, 0x12, 47, 3, 52, 0x51, 77, 4, 54, 0, 55, 0, 4, 4, 0, 5}},
		{laid(free(2), used(6)), 2, 6, 1, []int{4, 0}, []int{46, 0x12, 47, 3, 52, 0x51, 77, 4, 54, 0, 55, 0, 4, 4, 0, 7}},
		{laid(used(8)), 0, 8, 7, []int{2, 0}, []int{34, 0x72, 71, 1, 76, 0x11, 77, 8, 78, 0, 79, 0, 2, 8, 0, 1}},
	} {
		v := view.Whole(x.vals)
		span.Shrink(v, eight, x.p, x.n, x.m)
		trial.WantCells(t, v, x.reads, x.writes...)
	}
}

// P15.4: what Grow reads and writes, where there are pages enough: of the free span just so many, all but one, or one; up to the last page, and of a span of one page.
func TestGrow(t *testing.T) {
	between := laid(used(3), free(2), used(3))
	for _, x := range []struct {
		vals    []uint32
		p, n, m int
		reads   []int
		writes  []int
	}{
		{between, 0, 3, 5, []int{52, 54, 55, 0}, []int{3, 0, 54, 0, 55, 0, 52, 0, 47, 0, 34, 0x52, 59, 1, 0, 0}},
		{between, 0, 3, 4, []int{52, 54, 55, 2, 0}, []int{3, 0, 54, 0, 55, 0, 52, 0, 47, 0, 34, 0x42, 53, 1, 58, 0x11, 59, 5, 60, 0, 61, 0, 2, 5, 0, 1}},
		{laid(used(1), free(7)), 0, 1, 8, []int{40, 42, 43, 0}, []int{4, 0, 42, 0, 43, 0, 40, 0, 35, 0, 34, 0x82, 77, 1, 0, 0}},
		{laid(used(1), free(7)), 0, 1, 2, []int{40, 42, 43, 0}, []int{4, 3, 42, 0, 43, 0, 40, 0, 35, 0, 34, 0x22, 41, 1, 46, 0x61, 77, 3, 48, 0, 49, 0, 0, 6}},
		{laid(free(2), used(2), free(4)), 2, 2, 5, []int{58, 60, 61, 2, 0}, []int{4, 0, 60, 0, 61, 0, 58, 0, 53, 0, 46, 0x52, 71, 3, 76, 0x11, 77, 8, 78, 0, 79, 0, 2, 8, 0, 3}},
	} {
		v := view.Whole(x.vals)
		wantGrow(t, v, eight, x.p, x.n, x.m, true)
		trial.WantCells(t, v, x.reads, x.writes...)
	}
}

// P15.4: where there is nothing behind the span, or what is there is not free, or not long enough, false is told, and nothing is put: what is free ahead of it does not help.
func TestGrowWhereThereIsNoRoom(t *testing.T) {
	for _, x := range []struct {
		vals    []uint32
		p, n, m int
		reads   []int
	}{
		{laid(free(3), used(5)), 3, 5, 6, nil},
		{laid(used(8)), 0, 8, 9, nil},
		{laid(used(8)), 0, 8, math.MaxInt, nil},
		{laid(used(3), used(5)), 0, 3, 4, []int{52}},
		{laid(used(3), used(1), free(4)), 0, 3, 4, []int{52}},
		{laid(used(3), slab(5, 31, 1), free(4)), 0, 3, 4, []int{52}},
		{laid(used(3), free(2), used(3)), 0, 3, 6, []int{52}},
		{laid(used(3), free(2), used(1), free(2)), 0, 3, 8, []int{52}},
		{laid(used(3), free(5)), 0, 3, 9, []int{52}},
		{laid(used(3), free(5)), 0, 3, math.MaxInt, []int{52}},
	} {
		v := view.Whole(x.vals)
		wantGrow(t, v, eight, x.p, x.n, x.m, false)
		trial.WantCells(t, v, x.reads)
	}
}

// P15.1 to P15.4: a View that knows less tells what it misses, as the reads come; from there on nothing is put.
func TestMissing(t *testing.T) {
	// Behind the reads stands how much was put ahead of each one.
	twoBins := laid(free(3), used(1), free(4))
	trial.WantReads(t, twoBins, func(v *view.View) { span.Take(v, eight, 2) }, []int{3, 34, 36, 37, 2, 0}, 0, 0, 0, 0, 7, 10)
	trial.WantReads(t, laid(free(8)), func(v *view.View) { span.Take(v, eight, 2) }, []int{3, 4, 5, 34, 36, 37, 0}, 0, 0, 0, 0, 0, 0, 10)
	trial.WantReads(t, twoBins, func(v *view.View) { span.Take(v, eight, 5) }, []int{4, 58, 60, 5, 6, 7, 8, 9, 10, 11, 12})
	trial.WantReads(t, laid(free(3), used(2), used(3)), func(v *view.View) { span.Release(v, eight, 3, 2) }, []int{47, 34, 36, 37, 64, 4, 0}, 0, 0, 0, 0, 5, 7, 8)
	trial.WantReads(t, laid(used(3), used(2), free(3)), func(v *view.View) { span.Release(v, eight, 3, 2) }, []int{47, 34, 64, 66, 67, 4, 0}, 0, 0, 0, 0, 0, 7, 10)
	trial.WantReads(t, laid(used(5), free(3)), func(v *view.View) { span.Shrink(v, eight, 0, 5, 4) }, []int{64, 66, 67, 4, 0}, 2, 2, 2, 9, 12)
	trial.WantReads(t, laid(used(3), free(2), used(3)), func(v *view.View) { span.Grow(v, eight, 0, 3, 4) }, []int{52, 54, 55, 2, 0}, 0, 0, 0, 9, 12)
}

// P15.1, P15.4: what is told, where a cell is missing: none, or false, if it is asked whether there is room; else what was told of that.
func TestWhatIsToldOfMissingCells(t *testing.T) {
	vals := laid(used(3), free(3), used(2))
	for _, x := range []struct{ lack, page int }{{3, -1}, {52, -1}, {54, 3}, {55, 3}, {2, 3}, {0, 3}} {
		wantTake(t, trial.Lacking(vals, x.lack), eight, 2, x.page)
	}
	// In the bins behind that of n no info is asked for: so it may be missing where a page was found.
	wantTake(t, trial.Lacking(laid(free(8)), 34), eight, 2, 0)
	for _, x := range []struct {
		lack int
		want bool
	}{{52, false}, {54, true}, {55, true}, {3, true}, {0, true}} {
		wantGrow(t, trial.Lacking(vals, x.lack), eight, 0, 3, 4, x.want)
	}
}

// P15.1 to P15.4: nil, and a View without cells, have no pages.
func TestViewsWithoutCells(t *testing.T) {
	for _, v := range []*view.View{nil, new(view.View), view.Whole(nil), view.Known(0, nil)} {
		for _, c := range rights {
			wantTake(t, v, c, 1, -1)
			wantTake(t, v, c, c.Pages, -1)
			span.Release(v, c, 0, c.Pages)
			span.Release(v, c, 1, 2)
			span.Shrink(v, c, 0, 3, 1)
			wantGrow(t, v, c, 0, 1, 2, false)
			trial.WantCells(t, v, nil)
		}
	}
}

// P15.1 to P15.4: any pages, numbers and configurations: it ends, and does not panic.
func TestAnyArguments(t *testing.T) {
	vals := laid(used(2), free(2), slab(3, 1, 0), used(1), free(2))
	some := append([]int{0, 1, 2, 3, 8, 9, 1024}, noPages...)
	for _, c := range slices.Concat(rights, wrongs, pageless, vast) {
		for _, p := range some {
			for at, n := range some {
				v := view.Whole(vals)
				span.Take(v, c, n)
				span.Release(v, c, p, n)
				for _, m := range []int{some[at/2], some[len(some)-1-at], -p, -n, c.Pages - p} {
					span.Shrink(v, c, p, n, m)
					span.Grow(v, c, p, n, m)
					span.Grow(v, c, p, c.Pages-p, m)
				}
			}
		}
	}
}
