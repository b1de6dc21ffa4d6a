package sweep_test

import (
	"math"
	"slices"
	"testing"

	"nacre/api"
	"nacre/heap"
	"nacre/place"
	"nacre/sweep"
	"nacre/trial"
	"nacre/view"
)

// eight is the configuration of eight pages whose cells some tests write out: Info of the page p is the cell 34 and 6 times p, Foot, Next, Prev, Slots and Taken the five behind it; Rack(k) is the cell 13 and k, Bin(k) 2 and k, Free the cell 0.
var eight = api.Config{Threads: 1, Pages: 8, Shift: 10}

// Configurations of each sort, and numbers that are no page's.
var (
	rights  = trial.Rights(eight)
	wrongs  = slices.Concat(trial.Wrongs(eight), trial.Pageless(eight), trial.Vast(eight))
	noPages = trial.NoPages()
)

// all is the bits of all slots of the class 0.
const all = math.MaxUint32

// What heaps are laid of.
var (
	free = trial.Free
	used = trial.Used
	of   = trial.Slab
)

// laid is the values of a heap of eight pages.
func laid(pieces ...trial.Piece) []uint32 { return trial.Lay(eight, pieces...).Vals }

// wantPage asks whether Page tells this.
func wantPage(t *testing.T, v *view.View, c api.Config, p int, want bool) {
	t.Helper()
	if got := sweep.Page(v, c, p); got != want {
		t.Fatalf("Page(%v, %d) = %t, not %t", c, p, got, want)
	}
}

// wantAll asks whether All tells this.
func wantAll(t *testing.T, v *view.View, c api.Config, want int) {
	t.Helper()
	if got := sweep.All(v, c); got != want {
		t.Fatalf("All(%v) = %d, not %d", c, got, want)
	}
}

// P24.2: the chapter's example, of each class: behind a small block that is allocated there is one page that has others at hand; behind one of whole pages there is none.
func TestExample(t *testing.T) {
	for _, c := range rights {
		for _, slots := range []int64{32, 21, 16, 10, 8, 5, 4, 3, 2, 1} {
			v := view.Whole(trial.Lay(c, free(c.Pages)).Vals)
			r, _ := heap.Do(v, c, 0, 1, api.Pockets{}, api.Op{Kind: 1, A: 1 << c.Shift / slots / 16 * 16})
			if r.Err != 0 || r.Out != 1<<c.Shift {
				t.Fatalf("the operation on %v answers %v", c, r)
			}
			want := 1
			if slots == 1 {
				want = 0
			}
			wantAll(t, v, c, want)
			wantAll(t, v, c, 0)
		}
	}
}

// P24.1: what Page reads and writes where a slot of the slab is live: the slab is pushed just if it was full, ahead of those that are in the rack of its class.
func TestPageOfWhichSomeIsLive(t *testing.T) {
	for _, x := range []struct {
		vals   []uint32
		p      int
		reads  []int
		writes []int
	}{
		{laid(of(4, 0x0f, 1), used(7)), 0, []int{34, 38, 39}, []int{39, 1}},
		{laid(of(4, 0x7f, 0x7e), used(7)), 0, []int{34, 38, 39}, []int{39, 0x7e}},
		{laid(of(4, 0x81, 0x80), used(7)), 0, []int{34, 38, 39}, []int{39, 0x80}},
		{laid(of(4, 0xff, 0x7f), used(7)), 0, []int{34, 38, 39, 17}, []int{39, 0x7f, 36, 0, 37, 0, 17, 1}},
		{laid(of(4, 0xff, 8), free(7)), 0, []int{34, 38, 39, 17}, []int{39, 8, 36, 0, 37, 0, 17, 1}},
		{laid(of(4, 0xff, 1), of(4, 1, 1), used(6)), 0, []int{34, 38, 39, 17}, []int{39, 1, 36, 2, 37, 0, 43, 1, 17, 1}},
		{laid(of(8, 3, 1), of(7, 1, 1), used(6)), 0, []int{34, 38, 39, 21}, []int{39, 1, 36, 0, 37, 0, 21, 1}},
		{laid(free(7), of(0, all, 1<<31)), 7, []int{76, 80, 81, 13}, []int{81, 1 << 31, 78, 0, 79, 0, 13, 8}},
		{laid(free(7), of(0, 0x80000001, 1)), 7, []int{76, 80, 81}, []int{81, 1}},
	} {
		v := view.Whole(x.vals)
		wantPage(t, v, eight, x.p, true)
		trial.WantCells(t, v, x.reads, x.writes...)
	}
}

// P24.1: what Page reads and writes where no slot of the slab is live: it is pulled, if it was not full, and its page is free, as one with the free spans beside it.
func TestPageOfWhichNoneIsLive(t *testing.T) {
	for _, x := range []struct {
		vals   []uint32
		p      int
		reads  []int
		writes []int
	}{
		{laid(of(4, 0x31, 0), used(7)), 0, []int{34, 38, 39, 36, 37, 40, 2, 0}, []int{39, 0, 17, 0, 36, 0, 37, 0, 34, 0x11, 35, 1, 2, 1, 0, 1}},
		{laid(of(4, 0xff, 0), used(7)), 0, []int{34, 38, 39, 40, 2, 0}, []int{39, 0, 34, 0x11, 35, 1, 36, 0, 37, 0, 2, 1, 0, 1}},
		{laid(of(8, 1, 0), free(7)), 0, []int{34, 38, 39, 36, 37, 40, 42, 43, 5, 0}, []int{39, 0, 21, 0, 36, 0, 37, 0, 4, 0, 42, 0, 43, 0, 40, 0, 35, 0, 34, 0x81, 77, 1, 5, 1, 0, 8}},
		{laid(of(8, 3, 0), free(7)), 0, []int{34, 38, 39, 40, 42, 43, 5, 0}, []int{39, 0, 4, 0, 42, 0, 43, 0, 40, 0, 35, 0, 34, 0x81, 77, 1, 36, 0, 37, 0, 5, 1, 0, 8}},
		{laid(free(2), of(4, 4, 0), free(1), of(4, 1, 1), of(4, 2, 2), used(2)), 2, []int{46, 50, 51, 48, 49, 41, 34, 36, 37, 52, 54, 55, 4, 0}, []int{51, 0, 60, 6, 67, 5, 48, 0, 49, 0, 3, 0, 36, 0, 37, 0, 46, 0, 41, 0, 2, 0, 54, 0, 55, 0, 52, 0, 47, 0, 34, 0x41, 53, 1, 4, 1, 0, 4}},
		{laid(used(7), of(0, 1<<31, 0)), 7, []int{76, 80, 81, 78, 79, 71, 34, 2, 0}, []int{81, 0, 13, 0, 78, 0, 79, 0, 76, 0x11, 77, 8, 2, 8, 0, 1}},
		{laid(used(7), of(0, all, 0)), 7, []int{76, 80, 81, 71, 34, 2, 0}, []int{81, 0, 76, 0x11, 77, 8, 78, 0, 79, 0, 2, 8, 0, 1}},
	} {
		v := view.Whole(x.vals)
		wantPage(t, v, eight, x.p, true)
		trial.WantCells(t, v, x.reads, x.writes...)
	}
}

// P24.1: a page that is no slab tells false as soon as its Info is read; a slab of which all that is taken is live behind its Slots and Taken; nothing is put.
func TestPageOfWhichNoneIsAtHand(t *testing.T) {
	vals := laid(free(1), used(2), of(4, 0x0f, 0x0f), of(8, 3, 3), of(0, 1<<31, 1<<31), of(0, all, all), free(1))
	for p, reads := range [][]int{{34}, {40}, {46}, {52, 56, 57}, {58, 62, 63}, {64, 68, 69}, {70, 74, 75}, {76}} {
		v := view.Whole(vals)
		wantPage(t, v, eight, p, false)
		trial.WantCells(t, v, reads)
	}
	v := view.Whole(vals)
	wantAll(t, v, eight, 0)
	trial.WantCells(t, v, []int{34, 40, 46, 52, 56, 57, 58, 62, 63, 64, 68, 69, 70, 74, 75, 76})
}

// P24.1: an Info that is no value of an info is that of no slab, whatever its low bits are.
func TestPageOfNoInfo(t *testing.T) {
	for _, val := range []uint32{0x90013, 0x100013, 0x80000013, 0x23, 0x3, 0x10011, 0x10012, 0x14, 0x1f, all} {
		vals := laid(of(1, 7, 1), used(7))
		vals[34] = val
		v := view.Whole(vals)
		wantPage(t, v, eight, 0, false)
		trial.WantCells(t, v, []int{34})
	}
}

// P24.1: of each class a slab that is full is pushed, and one that lacks a slot is not.
func TestPageOfEachClass(t *testing.T) {
	for k, slots := range []int{32, 21, 16, 10, 8, 5, 4, 3, 2} {
		for lacks := range slots - 1 {
			taken := uint32(1)<<(slots-lacks) - 1
			v := view.Whole(laid(used(1), of(k, taken, 1), used(6)))
			wantPage(t, v, eight, 1, true)
			if lacks == 0 {
				trial.WantCells(t, v, []int{40, 44, 45, 13 + k}, 45, 1, 42, 0, 43, 0, 13+k, 2)
			} else {
				trial.WantCells(t, v, []int{40, 44, 45}, 45, 1)
			}
		}
	}
}

// P24.1: a slab is full just if its Taken has as many bits as the class has slots, wherever they stand; Slots need not be bits of Taken.
func TestFullWhereverTheBitsStand(t *testing.T) {
	for _, x := range []struct {
		live, taken uint32
		reads       []int
		writes      []int
	}{
		{1, 0x300, []int{34, 38, 39, 21}, []int{39, 1, 36, 0, 37, 0, 21, 1}},
		{1, 0x80000001, []int{34, 38, 39, 21}, []int{39, 1, 36, 0, 37, 0, 21, 1}},
		{0x100, 3, []int{34, 38, 39, 21}, []int{39, 0x100, 36, 0, 37, 0, 21, 1}},
		{1, 0x301, []int{34, 38, 39}, []int{39, 1}},
		{7, 3, []int{34, 38, 39, 21}, []int{39, 7, 36, 0, 37, 0, 21, 1}},
		{3, 1, []int{34, 38, 39}, []int{39, 3}},
		{3, 0, []int{34, 38, 39}, []int{39, 3}},
		{0, 0x300, []int{34, 38, 39, 40, 2, 0}, []int{39, 0, 34, 0x11, 35, 1, 36, 0, 37, 0, 2, 1, 0, 1}},
		{0, 0x301, []int{34, 38, 39, 36, 37, 40, 2, 0}, []int{39, 0, 21, 0, 36, 0, 37, 0, 34, 0x11, 35, 1, 2, 1, 0, 1}},
	} {
		vals := laid(of(8, 3, 0), used(7))
		vals[38], vals[39] = x.live, x.taken
		v := view.Whole(vals)
		wantPage(t, v, eight, 0, true)
		trial.WantCells(t, v, x.reads, x.writes...)
	}
}

// P24.1: of no page false is told, and nothing is read or put, nor missing; nor is anything of a configuration that is not right.
func TestNoPage(t *testing.T) {
	for _, c := range slices.Concat(rights, wrongs) {
		vals := trial.Rising(max(100, place.Cells(c)))
		some := []int{c.Pages, c.Pages + 1, 2 * c.Pages, -c.Pages}
		if place.Cells(c) > 0 {
			vals = trial.Lay(c, of(0, all, 1), of(8, 1, 0), free(c.Pages-3), of(8, 3, 0)).Vals
		} else {
			some = append(some, 0, 1, 2, c.Pages-1)
		}
		for _, v := range []*view.View{view.Whole(vals), view.Known(len(vals), nil), nil, new(view.View)} {
			for _, p := range slices.Concat(some, noPages) {
				wantPage(t, v, c, p, false)
			}
			trial.WantCells(t, v, nil)
		}
	}
}

// P24.2: of a configuration that is not right, which has no pages, or very many, All ends, and tells 0; nothing is read or put, nor missing.
func TestAllOfNoPages(t *testing.T) {
	for _, c := range wrongs {
		vals := trial.Rising(100)
		for _, v := range []*view.View{view.Whole(vals), view.Known(len(vals), nil), nil} {
			wantAll(t, v, c, 0)
			trial.WantCells(t, v, nil)
		}
	}
}

// P24.1, P24.2: of a View that knows nothing the first page's Info is missing; of one that has no cells nothing is.
func TestNothingKnown(t *testing.T) {
	for _, c := range rights {
		v := view.Known(place.Cells(c), nil)
		wantAll(t, v, c, 0)
		if got := v.Missing(); got != place.Info(c, 0) {
			t.Fatalf("of %v the cell %d is missing", c, got)
		}
		wantAll(t, nil, c, 0)
		wantPage(t, nil, c, 0, false)
	}
}

// P24.2: All does Page of each page, from 0 on: what is read and written of all of them, and how many told true.
func TestAll(t *testing.T) {
	for _, x := range []struct {
		vals   []uint32
		want   int
		reads  []int
		writes []int
	}{
		{laid(of(4, 0xff, 1), used(1), of(8, 2, 0), used(1), of(8, 3, 3), used(3)), 2, []int{34, 38, 39, 17, 40, 46, 50, 51, 48, 49, 41, 52, 2, 0, 58, 62, 63, 64, 70, 76}, []int{39, 1, 36, 0, 37, 0, 17, 1, 51, 0, 21, 0, 48, 0, 49, 0, 46, 0x11, 47, 3, 2, 3, 0, 1}},
		{laid(used(6), of(8, 3, 1), of(8, 3, 2)), 2, []int{34, 40, 46, 52, 58, 64, 70, 74, 75, 21, 76, 80, 81}, []int{75, 1, 72, 0, 73, 8, 21, 8, 81, 2, 78, 7, 79, 0}},
		{laid(used(7), of(0, 3, 1)), 1, []int{34, 40, 46, 52, 58, 64, 70, 76, 80, 81}, []int{81, 1}},
		{laid(free(8)), 0, []int{34, 40, 46, 52, 58, 64, 70, 76}, nil},
	} {
		v := view.Whole(x.vals)
		wantAll(t, v, eight, x.want)
		trial.WantCells(t, v, x.reads, x.writes...)
	}
}

// P24.2: how many pages told true: each that has some at hand once, wherever it stands; all pages, and none.
func TestHowMany(t *testing.T) {
	for _, c := range rights {
		for _, some := range []int{0, 1, 2, c.Pages - 1, c.Pages} {
			var l []trial.Piece
			for p := range c.Pages {
				if p < some {
					l = append(l, of(p%9, 3, uint32(p)%3))
				} else {
					l = append(l, of(p%9, 3, 3))
				}
			}
			v := view.Whole(trial.Lay(c, l...).Vals)
			wantAll(t, v, c, some)
			wantAll(t, v, c, 0)
		}
	}
}

// P24.1: a View that knows less tells what it misses, as the reads come; from there on nothing is put.
func TestMissing(t *testing.T) {
	page := func(v *view.View) { sweep.Page(v, eight, 0) }
	// Behind the reads stands how much was put ahead of each one.
	trial.WantReads(t, laid(free(8)), page, []int{34})
	trial.WantReads(t, laid(of(4, 0x0f, 0x0f), used(7)), page, []int{34, 38, 39})
	trial.WantReads(t, laid(of(4, 0x0f, 1), used(7)), page, []int{34, 38, 39})
	trial.WantReads(t, laid(of(4, 0xff, 1), used(7)), page, []int{34, 38, 39, 17}, 0, 0, 0, 1)
	trial.WantReads(t, laid(of(4, 0x10, 0), used(7)), page, []int{34, 38, 39, 36, 37, 40, 2, 0}, 0, 0, 0, 1, 1, 4, 6, 7)
	trial.WantReads(t, laid(of(4, 0xff, 0), used(7)), page, []int{34, 38, 39, 40, 2, 0}, 0, 0, 0, 1, 3, 6)
	trial.WantReads(t, laid(of(4, 1, 1), used(6), of(8, 3, 1)), func(v *view.View) { sweep.All(v, eight) }, []int{34, 38, 39, 40, 46, 52, 58, 64, 70, 76, 80, 81, 21}, 0, 0, 0, 0, 0, 0, 0, 0, 0, 0, 0, 0, 1)
}

// P24.1: where Taken is missing it is 0, as the lines say: it tells true just of a slab of which a slot is live.
func TestTakenMissing(t *testing.T) {
	for _, x := range []struct {
		live uint32
		want bool
	}{{0, false}, {1, true}, {0x0f, true}} {
		v := trial.Lacking(laid(of(4, 0x0f, x.live), used(7)), 39)
		wantPage(t, v, eight, 0, x.want)
		if v.Missing() != 39 || len(v.Writes()) != 0 {
			t.Fatalf("of %x the cell %d is missing, and %v is put", x.live, v.Missing(), v.Writes())
		}
	}
}
