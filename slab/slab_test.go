package slab_test

import (
	"math"
	"slices"
	"testing"

	"nacre/api"
	"nacre/class"
	"nacre/place"
	"nacre/slab"
	"nacre/trial"
	"nacre/view"
)

// eight is the configuration of eight pages whose cells some tests write out: Info of the page p is the cell 34 and 6 times p, Foot, Next and Prev the three behind it, Taken the fifth one behind it; Rack(k) is the cell 13 and k, Bin(k) the cell 2 and k, Free the cell 0.
var eight = api.Config{Threads: 1, Pages: 8, Shift: 10}

// Configurations of each sort, and numbers that are no page's.
var (
	rights   = trial.Rights(eight)
	wrongs   = trial.Wrongs(eight)
	pageless = trial.Pageless(eight)
	vast     = trial.Vast(eight)
	noPages  = trial.NoPages()
)

// What heaps are laid of.
var (
	free = trial.Free
	used = trial.Used
	of   = trial.Slab
)

// Numbers of no class, numbers of slots that may not be wanted, and numbers that no slot has.
var (
	noClasses = append([]int{9, 10, 13, 255, 256 + 8}, noPages...)
	noWants   = append([]int{0, 5, 6, 8, 32, 256 + 1}, noPages...)
	noSlots   = append([]int{32, 33, 63, 64, 65, 256, 256 + 1}, noPages...)
)

// noLinks are values that are the link of no page of the eight, and not 0.
var noLinks = []uint32{9, 10, 255, 256 + 3, 1<<16 + 3, 1 << 31, 1<<31 + 3, math.MaxUint32 - 1, math.MaxUint32}

// laid is the values of a heap of eight pages.
func laid(pieces ...trial.Piece) []uint32 { return trial.Lay(eight, pieces...).Vals }

// wantPick asks whether Pick tells this page, and these slots; none, if there are no slots.
func wantPick(t *testing.T, v *view.View, c api.Config, k, want, page int, slots ...int) {
	t.Helper()
	p, l, ok := slab.Pick(v, c, k, want)
	if len(slots) == 0 {
		page = -1
	}
	if p != page || !slices.Equal(l, slots) || ok != (len(slots) > 0) {
		t.Fatalf("Pick(%v, %d, %d) = %d, %v, %t, not %d, %v", c, k, want, p, l, ok, page, slots)
	}
}

// P16.1: the chapter's example: a page that is full with the first slots that are taken.
func TestExample(t *testing.T) {
	v := view.Whole(laid(free(8)))
	wantPick(t, v, eight, 8, 4, 0, 0, 1)
	trial.WantCells(t, v, []int{21, 2, 3, 4, 5, 34, 36, 37, 0, 39}, 5, 0, 36, 0, 37, 0, 34, 0x80013, 35, 1, 40, 0x71, 77, 2, 42, 0, 43, 0, 4, 2, 0, 7, 21, 0, 39, 3)
}

// P16.1: what Pick reads and writes where a slab of the class is in its rack: the first slots that are free, as many as are wanted, or all that there are; of the first slab in the rack alone, which is pulled just if it becomes full.
func TestPickOfASlab(t *testing.T) {
	fills := laid(of(4, 0x7f, 1), of(4, 1, 1), used(6))
	for _, x := range []struct {
		vals    []uint32
		k, want int
		page    int
		slots   []int
		reads   []int
		writes  []int
	}{
		{laid(of(4, 0x0b, 1), used(7)), 4, 1, 0, []int{2}, []int{17, 39}, []int{39, 0x0f}},
		{laid(of(4, 0x0b, 1), used(7)), 4, 2, 0, []int{2, 4}, []int{17, 39}, []int{39, 0x1f}},
		{laid(of(4, 0x0b, 1), used(7)), 4, 4, 0, []int{2, 4, 5, 6}, []int{17, 39}, []int{39, 0x7f}},
		{laid(of(4, 0x0e, 0), free(7)), 4, 3, 0, []int{0, 4, 5}, []int{17, 39}, []int{39, 0x3f}},
		{laid(of(4, 0x0f, 2), used(7)), 4, 4, 0, []int{4, 5, 6, 7}, []int{17, 39, 36, 37}, []int{39, 0xff, 17, 0, 36, 0, 37, 0}},
		{laid(of(4, 0xfe, 2), used(7)), 4, 4, 0, []int{0}, []int{17, 39, 36, 37}, []int{39, 0xff, 17, 0, 36, 0, 37, 0}},
		{laid(of(8, 2, 2), used(7)), 8, 1, 0, []int{0}, []int{21, 39, 36, 37}, []int{39, 3, 21, 0, 36, 0, 37, 0}},
		{laid(used(7), of(7, 1, 0)), 7, 1, 7, []int{1}, []int{20, 81}, []int{81, 3}},
		{laid(used(7), of(7, 1, 0)), 7, 3, 7, []int{1, 2}, []int{20, 81, 78, 79}, []int{81, 7, 20, 0, 78, 0, 79, 0}},
		{laid(of(0, 0x7fffffff, 0), used(7)), 0, 4, 0, []int{31}, []int{13, 39, 36, 37}, []int{39, math.MaxUint32, 13, 0, 36, 0, 37, 0}},
		{laid(of(0, 0x3fffffff, 0), used(7)), 0, 1, 0, []int{30}, []int{13, 39}, []int{39, 0x7fffffff}},
		{fills, 4, 4, 0, []int{7}, []int{17, 39, 36, 37}, []int{39, 0xff, 17, 2, 43, 0, 36, 0, 37, 0}},
		{laid(used(1), of(4, 1, 1), of(4, 3, 1), of(4, 7, 7), used(4)), 4, 4, 3, []int{3, 4, 5, 6}, []int{17, 57}, []int{57, 0x7f}},
	} {
		v := view.Whole(x.vals)
		wantPick(t, v, eight, x.k, x.want, x.page, x.slots...)
		trial.WantCells(t, v, x.reads, x.writes...)
	}
}

// P16.1: what Pick reads and writes where the rack of the class is empty: a free page becomes a slab, also where there are slabs of other classes, or full ones.
func TestPickOfAFreePage(t *testing.T) {
	for _, x := range []struct {
		vals    []uint32
		k, want int
		page    int
		slots   []int
		reads   []int
		writes  []int
	}{
		{laid(used(7), free(1)), 0, 4, 7, []int{0, 1, 2, 3}, []int{13, 2, 76, 78, 79, 0, 81}, []int{2, 0, 78, 0, 79, 0, 76, 0x13, 77, 8, 0, 0, 13, 8, 81, 15}},
		{laid(used(7), free(1)), 7, 4, 7, []int{0, 1, 2}, []int{20, 2, 76, 78, 79, 0, 81}, []int{2, 0, 78, 0, 79, 0, 76, 0x70013, 77, 8, 0, 0, 20, 0, 81, 7}},
		{laid(used(7), free(1)), 7, 2, 7, []int{0, 1}, []int{20, 2, 76, 78, 79, 0, 81}, []int{2, 0, 78, 0, 79, 0, 76, 0x70013, 77, 8, 0, 0, 20, 8, 81, 3}},
		{laid(of(8, 3, 1), free(7)), 8, 1, 1, []int{0}, []int{21, 2, 3, 4, 40, 42, 43, 0, 45}, []int{4, 3, 42, 0, 43, 0, 40, 0x80013, 41, 2, 46, 0x61, 77, 3, 48, 0, 49, 0, 0, 6, 21, 2, 45, 1}},
		{laid(of(5, 1, 1), free(1), of(7, 1, 0), used(5)), 6, 3, 1, []int{0, 1, 2}, []int{19, 2, 40, 42, 43, 0, 45}, []int{2, 0, 42, 0, 43, 0, 40, 0x60013, 41, 2, 0, 0, 19, 2, 45, 7}},
	} {
		v := view.Whole(x.vals)
		wantPick(t, v, eight, x.k, x.want, x.page, x.slots...)
		trial.WantCells(t, v, x.reads, x.writes...)
	}
}

// P16.1: of each class, and each number of slots that may be wanted, the first slots of a new slab are told, or all of them, where there are fewer.
func TestPickOfEachClass(t *testing.T) {
	for _, c := range rights {
		for k := range 9 {
			for want := 1; want <= 4; want++ {
				v := view.Whole(trial.Lay(c, free(c.Pages)).Vals)
				slots := []int{0, 1, 2, 3}[:min(want, class.Slots(k))]
				wantPick(t, v, c, k, want, 0, slots...)
				rack, taken := uint32(1), uint32(1)<<len(slots)-1
				if len(slots) == class.Slots(k) {
					rack = 0
				}
				if got := v.Get(place.Rack(k)); got != rack {
					t.Fatalf("Pick(%v, %d, %d): the rack is %d", c, k, want, got)
				}
				if got := v.Get(place.Taken(c, 0)); got != taken {
					t.Fatalf("Pick(%v, %d, %d): Taken is %x", c, k, want, got)
				}
				if got, want := v.Get(place.Info(c, 0)), of(k, 0, 0).Value(); got != want {
					t.Fatalf("Pick(%v, %d): Info is %x, not %x", c, k, got, want)
				}
			}
		}
	}
}

// P16.1: slots of one class are told page by page, each once, till there is no room.
func TestPickTillThereIsNoRoom(t *testing.T) {
	for k := range 9 {
		for want := 1; want <= 4; want++ {
			v := view.Whole(laid(used(3), free(5)))
			for p := 3; p < 8; p++ {
				for s := 0; s < class.Slots(k); s += want {
					wantPick(t, v, eight, k, want, p, []int{s, s + 1, s + 2, s + 3}[:min(want, class.Slots(k)-s)]...)
				}
			}
			wantPick(t, v, eight, k, want, -1)
		}
	}
}

// P16.1: where no slab of the class has a slot that is free, and no page is free, none is told, and nothing is put.
func TestPickWhereThereIsNoRoom(t *testing.T) {
	for _, vals := range [][]uint32{laid(used(8)), laid(of(8, 3, 1), of(7, 1, 1), used(6)), laid(of(8, 3, 3), of(8, 3, 2), of(0, 1, 1), used(5))} {
		for want := 1; want <= 4; want++ {
			v := view.Whole(vals)
			wantPick(t, v, eight, 8, want, -1)
			trial.WantCells(t, v, []int{21, 2, 3, 4, 5, 6, 7, 8, 9, 10, 11, 12})
		}
	}
}

// P16.1: of no class, and of a number of slots that may not be wanted, none is told, and nothing is read or put, nor missing.
func TestPickOfWhatMayNotBe(t *testing.T) {
	for _, c := range slices.Concat(rights, wrongs, pageless, vast) {
		vals := trial.Rising(max(100, place.Cells(c)))
		if place.Cells(c) > 0 {
			vals = trial.Lay(c, of(0, 1, 1), of(8, 1, 1), free(c.Pages-2)).Vals
		}
		for _, v := range []*view.View{view.Whole(vals), view.Known(len(vals), nil)} {
			for _, k := range noClasses {
				for _, want := range append([]int{1, 4}, noWants...) {
					wantPick(t, v, c, k, want, -1)
				}
			}
			for k := range 9 {
				for _, want := range noWants {
					wantPick(t, v, c, k, want, -1)
				}
			}
			trial.WantCells(t, v, nil)
		}
	}
}

// P16.1: a rack that leads to no page is taken on, as the lines say: of no page no slot is taken, and nothing is put.
func TestPickWhereTheRackLeadsToNoPage(t *testing.T) {
	for _, far := range noLinks {
		vals := laid(used(4), free(4))
		vals[20], vals[21] = far, far
		v := view.Whole(vals)
		wantPick(t, v, eight, 7, 2, int(far)-1, 0, 1)
		trial.WantCells(t, v, []int{20})
		v = view.Whole(vals)
		wantPick(t, v, eight, 8, 2, int(far)-1, 0, 1)
		trial.WantCells(t, v, []int{21})
	}
}

// P16.1: where the first slab in the rack has no slot that is free none is told, and nothing is put; where a free page has none, it is a slab nevertheless, as the lines say.
func TestPickWhereNoSlotIsFree(t *testing.T) {
	for _, taken := range []uint32{0xff, 0x1ff, 0x800000ff, math.MaxUint32} {
		vals := laid(of(4, 0x7f, 1), of(4, 1, 1), free(6))
		vals[39] = taken
		v := view.Whole(vals)
		wantPick(t, v, eight, 4, 1, -1)
		trial.WantCells(t, v, []int{17, 39})
	}
	vals := laid(used(7), free(1))
	vals[81] = 7
	v := view.Whole(vals)
	wantPick(t, v, eight, 7, 1, -1)
	trial.WantCells(t, v, []int{20, 2, 76, 78, 79, 0, 81}, 2, 0, 78, 0, 79, 0, 76, 0x70013, 77, 8, 0, 0, 20, 8)
}

// P16.1, P16.2: a slab is full just if its Taken has as many bits as the class has slots, wherever they stand.
func TestFullWhereverTheBitsStand(t *testing.T) {
	for _, x := range []struct {
		taken  uint32
		want   int
		slots  []int
		reads  []int
		writes []int
	}{
		{0x100, 1, []int{0}, []int{21, 39, 36, 37}, []int{39, 0x101, 21, 0, 36, 0, 37, 0}},
		{0x100, 2, []int{0, 1}, []int{21, 39}, []int{39, 0x103}},
		{0x80000001, 1, []int{1}, []int{21, 39}, []int{39, 0x80000003}},
		{0x80000000, 1, []int{0}, []int{21, 39, 36, 37}, []int{39, 0x80000001, 21, 0, 36, 0, 37, 0}},
	} {
		vals := laid(of(8, 1, 0), used(7))
		vals[39] = x.taken
		v := view.Whole(vals)
		wantPick(t, v, eight, 8, x.want, 0, x.slots...)
		trial.WantCells(t, v, x.reads, x.writes...)
	}
	for _, x := range []struct {
		taken  uint32
		s      int
		reads  []int
		writes []int
	}{
		{0x300, 8, []int{34, 39, 21}, []int{39, 0x200, 36, 0, 37, 0, 21, 1}},
		{0x80000001, 31, []int{34, 39, 21}, []int{39, 1, 36, 0, 37, 0, 21, 1}},
		{0x301, 0, []int{34, 39}, []int{39, 0x300}},
		{0x103, 8, []int{34, 39}, []int{39, 3}},
	} {
		vals := laid(of(8, 3, 0), used(7))
		vals[39] = x.taken
		v := view.Whole(vals)
		slab.Give(v, eight, 0, x.s)
		trial.WantCells(t, v, x.reads, x.writes...)
	}
}

// P16.2: what Give reads and writes where other slots of the slab are taken: the slab is pushed just if it was full, ahead of those that are in the rack of its class.
func TestGive(t *testing.T) {
	for _, x := range []struct {
		vals   []uint32
		p, s   int
		reads  []int
		writes []int
	}{
		{laid(of(4, 0x0f, 1), used(7)), 0, 2, []int{34, 39}, []int{39, 0x0b}},
		{laid(of(4, 0x7f, 1), used(7)), 0, 6, []int{34, 39}, []int{39, 0x3f}},
		{laid(of(4, 0x03, 1), used(7)), 0, 1, []int{34, 39}, []int{39, 0x01}},
		{laid(of(4, 0xff, 1), used(7)), 0, 7, []int{34, 39, 17}, []int{39, 0x7f, 36, 0, 37, 0, 17, 1}},
		{laid(of(4, 0xff, 8), used(7)), 0, 0, []int{34, 39, 17}, []int{39, 0xfe, 36, 0, 37, 0, 17, 1}},
		{laid(of(4, 0xff, 1), of(4, 1, 1), used(6)), 0, 3, []int{34, 39, 17}, []int{39, 0xf7, 36, 2, 37, 0, 43, 1, 17, 1}},
		{laid(of(8, 3, 1), of(7, 1, 1), used(6)), 0, 1, []int{34, 39, 21}, []int{39, 1, 36, 0, 37, 0, 21, 1}},
		{laid(free(7), of(0, math.MaxUint32, 1)), 7, 31, []int{76, 81, 13}, []int{81, 0x7fffffff, 78, 0, 79, 0, 13, 8}},
		{laid(free(7), of(0, 0x80000001, 1)), 7, 31, []int{76, 81}, []int{81, 1}},
	} {
		v := view.Whole(x.vals)
		slab.Give(v, eight, x.p, x.s)
		trial.WantCells(t, v, x.reads, x.writes...)
	}
}

// P16.2: what Give reads and writes where no other slot of the slab is taken: it is pulled, and its page is free, as one with the free spans beside it.
func TestGiveOfTheLastSlot(t *testing.T) {
	for _, x := range []struct {
		vals   []uint32
		p, s   int
		reads  []int
		writes []int
	}{
		{laid(of(4, 0x10, 0), used(7)), 0, 4, []int{34, 39, 36, 37, 40, 2, 0}, []int{17, 0, 36, 0, 37, 0, 39, 0, 34, 0x11, 35, 1, 2, 1, 0, 1}},
		{laid(of(8, 1, 0), free(7)), 0, 0, []int{34, 39, 36, 37, 40, 42, 43, 5, 0}, []int{21, 0, 36, 0, 37, 0, 39, 0, 4, 0, 42, 0, 43, 0, 40, 0, 35, 0, 34, 0x81, 77, 1, 5, 1, 0, 8}},
		{laid(free(2), of(4, 4, 0), free(1), of(4, 1, 1), of(4, 2, 2), used(2)), 2, 2, []int{46, 51, 48, 49, 41, 34, 36, 37, 52, 54, 55, 4, 0}, []int{60, 6, 67, 5, 48, 0, 49, 0, 51, 0, 3, 0, 36, 0, 37, 0, 46, 0, 41, 0, 2, 0, 54, 0, 55, 0, 52, 0, 47, 0, 34, 0x41, 53, 1, 4, 1, 0, 4}},
		{laid(used(7), of(0, 1<<31, 0)), 7, 31, []int{76, 81, 78, 79, 71, 34, 2, 0}, []int{13, 0, 78, 0, 79, 0, 81, 0, 76, 0x11, 77, 8, 2, 8, 0, 1}},
	} {
		v := view.Whole(x.vals)
		slab.Give(v, eight, x.p, x.s)
		trial.WantCells(t, v, x.reads, x.writes...)
	}
}

// P16.2: of a slot that no Taken has nothing is read or put, nor missing.
func TestGiveOfNoSlot(t *testing.T) {
	for _, c := range slices.Concat(rights, wrongs, pageless, vast) {
		vals := trial.Rising(max(100, place.Cells(c)))
		if place.Cells(c) > 0 {
			vals = trial.Lay(c, of(0, math.MaxUint32, 1), of(8, 1, 0), free(c.Pages-2)).Vals
		}
		for _, v := range []*view.View{view.Whole(vals), view.Known(len(vals), nil)} {
			for _, s := range noSlots {
				for _, p := range append([]int{0, 1, c.Pages - 1}, noPages...) {
					slab.Give(v, c, p, s)
				}
			}
			trial.WantCells(t, v, nil)
		}
	}
}

// P16.1, P16.2: a View that knows less tells what it misses, as the reads come; from there on nothing is put.
func TestMissing(t *testing.T) {
	// Behind the reads stands how much was put ahead of each one.
	trial.WantReads(t, laid(of(4, 0x0b, 1), used(7)), func(v *view.View) { slab.Pick(v, eight, 4, 2) }, []int{17, 39})
	trial.WantReads(t, laid(of(4, 0x7f, 1), used(7)), func(v *view.View) { slab.Pick(v, eight, 4, 2) }, []int{17, 39, 36, 37}, 0, 0, 1, 1)
	trial.WantReads(t, laid(used(8)), func(v *view.View) { slab.Pick(v, eight, 8, 1) }, []int{21, 2, 3, 4, 5, 6, 7, 8, 9, 10, 11, 12})
	trial.WantReads(t, laid(of(4, 0x0f, 1), used(7)), func(v *view.View) { slab.Give(v, eight, 0, 2) }, []int{34, 39})
	trial.WantReads(t, laid(of(4, 0xff, 1), used(7)), func(v *view.View) { slab.Give(v, eight, 0, 7) }, []int{34, 39, 17}, 0, 0, 1)
	trial.WantReads(t, laid(of(4, 0x10, 0), used(7)), func(v *view.View) { slab.Give(v, eight, 0, 4) }, []int{34, 39, 36, 37, 40, 2, 0}, 0, 0, 0, 0, 4, 6, 7)
}

// P16.1: where a free page becomes a slab a View that knows less has put what was put ahead of the cell that it misses: of the page a used span first, and the rack before it is full.
func TestMissingOfAFreePage(t *testing.T) {
	vals, reads := laid(used(7), free(1)), []int{20, 2, 76, 78, 79, 0, 81}
	for at, lack := range reads {
		v := trial.Lacking(vals, lack)
		slab.Pick(v, eight, 7, 4)
		var writes []api.Pair
		switch lack {
		case 0:
			writes = []api.Pair{{Cell: 2}, {Cell: 78}, {Cell: 79}, {Cell: 76, Val: 0x12}, {Cell: 77, Val: 8}}
		case 81:
			writes = []api.Pair{{Cell: 2}, {Cell: 78}, {Cell: 79}, {Cell: 76, Val: 0x70013}, {Cell: 77, Val: 8}, {Cell: 0}, {Cell: 20, Val: 8}}
		}
		if v.Missing() != lack || !slices.Equal(v.Reads(), reads[:at]) || !slices.Equal(v.Writes(), writes) {
			t.Fatalf("without %d: %v is read, %v is put, %d is missing", lack, v.Reads(), v.Writes(), v.Missing())
		}
	}
}

// P16.1: what is told, where a cell is missing, is what the lines come to: none, if it is asked whether there is room; behind the rack of which a slab was told, slots of it.
func TestWhatIsToldOfMissingCells(t *testing.T) {
	inRack := laid(of(4, 0x7f, 1), used(7))
	for _, x := range []struct {
		lack  int
		slots []int
	}{{17, nil}, {39, []int{0, 1}}, {36, []int{7}}, {37, []int{7}}, {34, []int{7}}} {
		wantPick(t, trial.Lacking(inRack, x.lack), eight, 4, 2, 0, x.slots...)
	}
	inPage := laid(used(7), free(1))
	for _, x := range []struct {
		lack  int
		slots []int
	}{{20, nil}, {2, nil}, {76, nil}, {78, []int{0, 1}}, {79, []int{0, 1}}, {0, []int{0, 1}}, {81, []int{0, 1}}} {
		wantPick(t, trial.Lacking(inPage, x.lack), eight, 7, 2, 7, x.slots...)
	}
}

// P16.1, P16.2: nil, and a View without cells, have no slots.
func TestViewsWithoutCells(t *testing.T) {
	for _, v := range []*view.View{nil, new(view.View), view.Whole(nil), view.Known(0, nil)} {
		for _, c := range rights {
			for k := range 9 {
				wantPick(t, v, c, k, 4, -1)
			}
			for _, p := range []int{0, 1, c.Pages - 1, c.Pages} {
				slab.Give(v, c, p, 0)
				slab.Give(v, c, p, 31)
			}
			trial.WantCells(t, v, nil)
		}
	}
}

// P16.1: the list that is told is its own: what is done to it changes no later answer.
func TestSlotsAreNotShared(t *testing.T) {
	v := view.Whole(laid(free(8)))
	_, l, _ := slab.Pick(v, eight, 0, 2)
	l = append(l[:0], 30, 31, 30, 31)
	wantPick(t, v, eight, 0, 2, 0, 2, 3)
	if !slices.Equal(l, []int{30, 31, 30, 31}) {
		t.Fatalf("the list that was told is %v now", l)
	}
}

// P16.1, P16.2: any pages, slots, classes, numbers and configurations: it ends, and does not panic, and does what the lines say.
func TestAnyArguments(t *testing.T) {
	vals := laid(used(1), free(1), of(3, 1, 0), used(1), of(8, 3, 0), of(0, 7, 3), free(2))
	some := append([]int{0, 1, 2, 3, 7, 8, 9, 31, 32, 1023, 1024}, noPages...)
	for _, c := range slices.Concat(rights, wrongs, pageless, vast) {
		for _, a := range some {
			for _, b := range some {
				v, as := view.Whole(vals), view.Whole(vals)
				plain{as, c}.wantPick(t, v, a, b)
				plain{as, c}.wantGive(t, v, a, b)
				plain{as, c}.wantPick(t, v, 8, 4)
				plain{as, c}.wantGive(t, v, a, 1)
				plain{as, c}.wantPick(t, v, 1, 2)
			}
		}
	}
}
