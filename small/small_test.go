package small_test

import (
	"math"
	"slices"
	"testing"

	"nacre/api"
	"nacre/class"
	"nacre/place"
	"nacre/pocket"
	"nacre/small"
	"nacre/trial"
	"nacre/view"
)

// classes is how many classes there are, as the document has it.
const classes = 9

// eight is the configuration of eight pages whose cells some tests write out: Info of the page p is the cell 34 and 6 times p, Foot, Next, Prev, Slots and Taken the five behind it; Rack(k) is the cell 13 and k, Bin(k) the cell 2 and k, Free the cell 0, Live the cell 1. The page p has the addresses from 1024 times p + 1 on.
var eight = api.Config{Threads: 1, Pages: 8, Shift: 10}

// Configurations of each sort.
var (
	rights = trial.Rights(eight)
	none   = slices.Concat(trial.Wrongs(eight), trial.Pageless(eight), trial.Vast(eight))
)

// Numbers of no class, of no page, and of no slot.
var (
	noPages   = trial.NoPages()
	noClasses = append([]int{9, 10, 13, 255, 256 + 8}, noPages...)
	noSlots   = append([]int{32, 33, 63, 64, 65, 256, 256 + 1}, noPages...)
)

// What heaps are laid of.
var (
	free = trial.Free
	used = trial.Used
	of   = trial.Slab
)

// laid is the values of a heap of eight pages.
func laid(pieces ...trial.Piece) []uint32 { return trial.Lay(eight, pieces...).Vals }

// empty is Pockets in which nothing stands.
var empty api.Pockets

// with is the Pockets, whose pocket k has these addresses instead.
func with(p api.Pockets, k int, l ...int64) api.Pockets {
	p[k] = l
	return p
}

// one is Pockets of which one pocket alone has something.
func one(k int, l ...int64) api.Pockets { return with(empty, k, l...) }

// wantPockets asks whether the Pockets are as they are to be.
func wantPockets(t *testing.T, what string, got, want api.Pockets) {
	t.Helper()
	if !pocket.Same(got, want) {
		t.Fatalf("%s: the Pockets are %v, not %v", what, got, want)
	}
}

// wantAlloc asks whether Alloc tells this address, and leaves these Pockets, and those that were handed in as they are.
func wantAlloc(t *testing.T, v *view.View, c api.Config, p api.Pockets, k int, a int64, left api.Pockets) {
	t.Helper()
	was := trial.CopyPockets(p)
	got, q, ok := small.Alloc(v, c, p, k)
	if got != a || !ok {
		t.Fatalf("Alloc(%v, %v, %d) = %d, %t, not %d", c, p, k, got, ok, a)
	}
	wantPockets(t, "Alloc", q, left)
	wantPockets(t, "handed in to Alloc", p, was)
}

// wantNone asks whether Alloc tells that there is no block, and leaves the Pockets as they are.
func wantNone(t *testing.T, v *view.View, c api.Config, p api.Pockets, k int) {
	t.Helper()
	a, q, ok := small.Alloc(v, c, p, k)
	if a != 0 || ok {
		t.Fatalf("Alloc(%v, %v, %d) = %d, %t, not none", c, p, k, a, ok)
	}
	wantPockets(t, "Alloc", q, p)
}

// wantFree asks whether Free leaves these Pockets, and those that were handed in as they are.
func wantFree(t *testing.T, v *view.View, c api.Config, p api.Pockets, page, slot int, left api.Pockets) {
	t.Helper()
	was := trial.CopyPockets(p)
	wantPockets(t, "Free", small.Free(v, c, p, page, slot), left)
	wantPockets(t, "handed in to Free", p, was)
}

// wantFlush asks whether Flush tells so many, and leaves these Pockets, and those that were handed in as they are.
func wantFlush(t *testing.T, v *view.View, c api.Config, p api.Pockets, k, n int, left api.Pockets) {
	t.Helper()
	was := trial.CopyPockets(p)
	got, q := small.Flush(v, c, p, k)
	if got != n {
		t.Fatalf("Flush(%v, %v, %d) = %d, not %d", c, p, k, got, n)
	}
	wantPockets(t, "Flush", q, left)
	wantPockets(t, "handed in to Flush", p, was)
}

// P18.1: the chapter's example: the next block is the slot behind the first one.
func TestExample(t *testing.T) {
	v := view.Whole(laid(free(8)))
	wantAlloc(t, v, eight, empty, 0, 1024, one(0, 1120, 1088, 1056))
	trial.WantCells(t, v,
		[]int{13, 2, 3, 4, 5, 34, 36, 37, 0, 39, 38, 1},
		5, 0, 36, 0, 37, 0, 34, 0x13, 35, 1, 40, 0x71, 77, 2, 42, 0, 43, 0, 4, 2, 0, 7, 13, 1, 39, 15, 38, 1, 1, 1)
	wantAlloc(t, v, eight, one(0, 1120, 1088, 1056), 0, 1056, one(0, 1120, 1088))
	if slots, live := v.Get(38), v.Get(1); slots != 3 || live != 2 {
		t.Fatalf("Slots is %x, and Live %d", slots, live)
	}
}

// P18.1: what Alloc reads and writes where the pocket of the class is not empty: its last address alone is taken out, wherever its slot is, also where a slab in the rack has slots that are free.
func TestAllocOutOfAPocket(t *testing.T) {
	for _, x := range []struct {
		vals   []uint32
		k      int
		p      api.Pockets
		a      int64
		left   api.Pockets
		reads  []int
		writes []int
	}{
		{laid(of(4, 0x0f, 1), used(7)), 4, one(4, 1152, 1280, 1408), 1408, one(4, 1152, 1280), []int{38, 1}, []int{38, 9, 1, 3}},
		{laid(of(4, 0x0b, 1), used(7)), 4, one(4, 1408, 1152), 1152, one(4, 1408), []int{38, 1}, []int{38, 3, 1, 3}},
		{laid(of(4, 0x0f, 0), used(7)), 4, one(4, 1280, 1152, 1408, 1024), 1024, one(4, 1280, 1152, 1408), []int{38, 1}, []int{38, 1, 1, 2}},
		{laid(used(7), of(0, 1<<31, 0)), 0, one(0, 9184), 9184, empty, []int{80, 1}, []int{80, 1 << 31, 1, 2}},
		{laid(of(8, 3, 1), of(8, 1, 1), free(6)), 8, one(8, 1536), 1536, empty, []int{38, 1}, []int{38, 3, 1, 3}},
		{laid(of(8, 3, 0), of(8, 3, 0), used(6)), 8, one(8, 1024, 2560, 1536, 2048), 2048, one(8, 1024, 2560, 1536), []int{44, 1}, []int{44, 1, 1, 2}},
		{laid(of(8, 3, 1), of(1, 3, 0), used(6)), 1, with(one(8, 1536), 1, 2048, 2096), 2096, with(one(8, 1536), 1, 2048), []int{44, 1}, []int{44, 2, 1, 3}},
		{laid(used(1), of(1, 1<<21-1, 1<<20-1), used(6)), 1, one(1, 3008), 3008, empty, []int{44, 1}, []int{44, 1<<21 - 1, 1, 23}},
	} {
		v := view.Whole(x.vals)
		wantAlloc(t, v, eight, x.p, x.k, x.a, x.left)
		trial.WantCells(t, v, x.reads, x.writes...)
	}
}

// P18.1: what Alloc reads and writes where the pocket of the class is empty: the first one of at most four slots that are picked is live, and the others are put into the pocket, the last one first; the other pockets stay as they are.
func TestAllocOfASlab(t *testing.T) {
	for _, x := range []struct {
		vals   []uint32
		k      int
		p      api.Pockets
		a      int64
		left   api.Pockets
		reads  []int
		writes []int
	}{
		{laid(of(4, 0x0b, 1), used(7)), 4, empty, 1280, one(4, 1792, 1664, 1536), []int{17, 39, 38, 1}, []int{39, 0x7f, 38, 5, 1, 3}},
		{laid(of(4, 0x1f, 0x1f), used(7)), 4, empty, 1664, one(4, 1920, 1792), []int{17, 39, 36, 37, 38, 1}, []int{39, 0xff, 17, 0, 36, 0, 37, 0, 38, 0x3f, 1, 7}},
		{laid(of(4, 0xbd, 0xbd), used(7)), 4, empty, 1152, one(4, 1792), []int{17, 39, 36, 37, 38, 1}, []int{39, 0xff, 17, 0, 36, 0, 37, 0, 38, 0xbf, 1, 8}},
		{laid(of(4, 0xfe, 2), used(7)), 4, empty, 1024, empty, []int{17, 39, 36, 37, 38, 1}, []int{39, 0xff, 17, 0, 36, 0, 37, 0, 38, 3, 1, 3}},
		{laid(of(0, 0x7fffffff, 0), used(7)), 0, empty, 2016, empty, []int{13, 39, 36, 37, 38, 1}, []int{39, math.MaxUint32, 13, 0, 36, 0, 37, 0, 38, 1 << 31, 1, 2}},
		{laid(of(8, 3, 1), of(8, 2, 2), used(6)), 8, empty, 2048, empty, []int{21, 45, 42, 43, 44, 1}, []int{45, 3, 21, 0, 42, 0, 43, 0, 44, 3, 1, 4}},
		{laid(of(8, 3, 1), of(7, 1, 1), used(6)), 7, one(8, 1536), 2384, with(one(8, 1536), 7, 2720), []int{20, 45, 42, 43, 44, 1}, []int{45, 7, 20, 0, 42, 0, 43, 0, 44, 3, 1, 4}},
		{laid(used(7), free(1)), 7, empty, 8192, one(7, 8864, 8528), []int{20, 2, 76, 78, 79, 0, 81, 80, 1}, []int{2, 0, 78, 0, 79, 0, 76, 0x70013, 77, 8, 0, 0, 20, 0, 81, 7, 80, 1, 1, 2}},
		{laid(of(8, 3, 1), free(1), used(6)), 8, one(4, 7), 2048, with(one(4, 7), 8, 2560), []int{21, 2, 40, 42, 43, 0, 45, 44, 1}, []int{2, 0, 42, 0, 43, 0, 40, 0x80013, 41, 2, 0, 0, 21, 0, 45, 3, 44, 1, 1, 3}},
	} {
		v := view.Whole(x.vals)
		wantAlloc(t, v, eight, x.p, x.k, x.a, x.left)
		trial.WantCells(t, v, x.reads, x.writes...)
	}
}

// P18.1: of each class, and of configurations of each sort: the first slot of a new slab is the block, and the pocket has the next ones, at most three.
func TestAllocOfEachClass(t *testing.T) {
	for _, c := range rights {
		for k := range classes {
			v := view.Whole(trial.Lay(c, free(c.Pages)).Vals)
			first, size := int64(1)<<c.Shift, class.Size(c.Shift, k)
			var l []int64
			for s := min(4, class.Slots(k)) - 1; s > 0; s-- {
				l = append(l, first+int64(s)*size)
			}
			wantAlloc(t, v, c, empty, k, first, one(k, l...))
			if slots, live := v.Get(place.Slots(c, 0)), v.Get(place.Live); slots != 1 || live != 1 {
				t.Fatalf("Alloc(%v, %d): Slots is %x, and Live %d", c, k, slots, live)
			}
		}
	}
}

// P18.1: blocks of one class are told slot by slot, and page by page, till there is no room.
func TestAllocTillThereIsNoRoom(t *testing.T) {
	for k := range classes {
		v := view.Whole(laid(used(3), free(5)))
		p := empty
		for page := 3; page < 8; page++ {
			for s := range class.Slots(k) {
				want := int64(1024*(page+1)) + int64(s)*class.Size(10, k)
				a, q, ok := small.Alloc(v, eight, p, k)
				if a != want || !ok {
					t.Fatalf("Alloc(%v, %d) = %d, %t, not %d", p, k, a, ok, want)
				}
				p = q
			}
		}
		wantPockets(t, "all slots are live", p, empty)
		wantNone(t, v, eight, p, k)
	}
}

// P18.1: where the pocket of the class is empty, no slab of the class has a slot that is free, and no page is free, there is no block, and nothing is put; what other pockets have does not count.
func TestAllocWhereThereIsNoRoom(t *testing.T) {
	for _, x := range []struct {
		vals []uint32
		p    api.Pockets
	}{
		{laid(used(8)), empty},
		{laid(of(8, 3, 1), of(7, 1, 0), used(6)), one(7, 2048)},
		{laid(of(8, 3, 3), of(8, 3, 3), of(0, 7, 1), used(5)), one(0, 4160, 4128)},
	} {
		v := view.Whole(x.vals)
		wantNone(t, v, eight, x.p, 8)
		trial.WantCells(t, v, []int{21, 2, 3, 4, 5, 6, 7, 8, 9, 10, 11, 12})
	}
}

// P18.1, P18.3: of no class there is no block, nothing is given back, and nothing is read or put, nor missing.
func TestNoClasses(t *testing.T) {
	for _, c := range slices.Concat(rights, none) {
		vals := trial.Rising(max(100, place.Cells(c)))
		for _, v := range []*view.View{view.Whole(vals), view.Known(len(vals), nil)} {
			for _, k := range noClasses {
				for _, p := range []api.Pockets{empty, one(0, 1024), with(one(0, 1024, 1056), 8, 2048)} {
					wantNone(t, v, c, p, k)
					wantFlush(t, v, c, p, k, 0, p)
				}
			}
			trial.WantCells(t, v, nil)
		}
	}
}

// P18.2: what Free reads and writes where the pocket of the class has room: the slot is not live any more, and is put there behind the others; what other pockets have does not count.
func TestFreeIntoAPocket(t *testing.T) {
	for _, x := range []struct {
		vals       []uint32
		p          api.Pockets
		page, slot int
		left       api.Pockets
		reads      []int
		writes     []int
	}{
		{laid(of(4, 0x0f, 0x0d), used(7)), one(4, 1152), 0, 2, one(4, 1152, 1280), []int{34, 38, 1}, []int{38, 9, 1, 3}},
		{laid(of(4, 0x0f, 0x01), used(7)), one(4, 1152, 1408, 1280), 0, 0, one(4, 1152, 1408, 1280, 1024), []int{34, 38, 1}, []int{38, 0, 1, 1}},
		{laid(of(4, 0xff, 0xff), used(7)), empty, 0, 7, one(4, 1920), []int{34, 38, 1}, []int{38, 0x7f, 1, 8}},
		{laid(of(8, 1, 1), used(7)), empty, 0, 0, one(8, 1024), []int{34, 38, 1}, []int{38, 0, 1, 1}},
		{laid(used(7), of(0, 1<<31, 1<<31)), empty, 7, 31, one(0, 9184), []int{76, 80, 1}, []int{80, 0, 1, 1}},
		{laid(used(6), of(1, 1<<21-1, 1<<21-1), free(1)), empty, 6, 20, one(1, 8128), []int{70, 74, 1}, []int{74, 1<<20 - 1, 1, 21}},
		{laid(of(3, 15, 0), of(4, 1, 1), used(6)), one(3, 1024, 1120, 1216, 1312), 1, 0, with(one(3, 1024, 1120, 1216, 1312), 4, 2048), []int{40, 44, 1}, []int{44, 0, 1, 1}},
	} {
		v := view.Whole(x.vals)
		wantFree(t, v, eight, x.p, x.page, x.slot, x.left)
		trial.WantCells(t, v, x.reads, x.writes...)
	}
}

// P18.2: what Free reads and writes where the pocket of the class has no room: the slot is given back, whatever slab the others are of; a slab that has no other one becomes a free page.
func TestFreeWhereThereIsNoRoom(t *testing.T) {
	firsts := one(4, 1024, 1152, 1280, 1408)
	pairs := one(8, 1024, 1536, 2048, 2560)
	for _, x := range []struct {
		vals       []uint32
		p          api.Pockets
		page, slot int
		reads      []int
		writes     []int
	}{
		{laid(of(4, 0x1f, 0x10), used(7)), firsts, 0, 4, []int{34, 38, 1, 39}, []int{38, 0, 1, 1, 39, 15}},
		{laid(of(4, 0xff, 0xf0), used(7)), firsts, 0, 7, []int{34, 38, 1, 39, 17}, []int{38, 0x70, 1, 4, 39, 0x7f, 36, 0, 37, 0, 17, 1}},
		{laid(of(4, 0x0f, 0), of(4, 3, 3), used(6)), firsts, 1, 0, []int{40, 44, 1, 45}, []int{44, 2, 1, 2, 45, 2}},
		{laid(of(4, 0x0f, 0), of(4, 1, 1), used(6)), firsts, 1, 0, []int{40, 44, 1, 45, 42, 43, 35, 34, 46, 2, 0}, []int{44, 0, 1, 1, 36, 0, 42, 0, 43, 0, 45, 0, 40, 0x11, 41, 2, 2, 2, 0, 1}},
		{laid(of(8, 3, 0), of(8, 3, 0), of(8, 3, 3), used(5)), pairs, 2, 1, []int{46, 50, 1, 51, 21}, []int{50, 1, 1, 2, 51, 1, 48, 0, 49, 0, 21, 3}},
		{laid(of(8, 3, 0), of(8, 3, 0), of(8, 1, 1), used(5)), pairs, 2, 0, []int{46, 50, 1, 51, 48, 49, 41, 40, 52, 2, 0}, []int{50, 0, 1, 1, 21, 0, 48, 0, 49, 0, 51, 0, 46, 0x11, 47, 3, 2, 3, 0, 1}},
	} {
		v := view.Whole(x.vals)
		wantFree(t, v, eight, x.p, x.page, x.slot, x.p)
		trial.WantCells(t, v, x.reads, x.writes...)
	}
}

// P18.2: of a slot that no slab can have the Pockets stay as they are, and nothing is read or put, nor missing.
func TestFreeOfNoSlot(t *testing.T) {
	for _, c := range slices.Concat(rights, none) {
		vals := trial.Rising(max(100, place.Cells(c)))
		if place.Cells(c) > 0 {
			vals = trial.Lay(c, of(0, math.MaxUint32, math.MaxUint32), of(8, 1, 1), free(c.Pages-2)).Vals
		}
		for _, v := range []*view.View{view.Whole(vals), view.Known(len(vals), nil)} {
			for _, slot := range noSlots {
				for _, page := range append([]int{0, 1, c.Pages - 1}, noPages...) {
					wantFree(t, v, c, empty, page, slot, empty)
					wantFree(t, v, c, one(0, 1024, 1056), page, slot, one(0, 1024, 1056))
				}
			}
			trial.WantCells(t, v, nil)
		}
	}
}

// P18.1, P18.2: Slots has the bit behind Alloc, and has it not behind Free, also if it was so already; the others stay as they are.
func TestBitsThatAreSoAlready(t *testing.T) {
	vals := laid(of(4, 0x3f, 0x2d), used(7))
	v := view.Whole(vals)
	wantAlloc(t, v, eight, one(4, 1152, 1280), 4, 1280, one(4, 1152))
	trial.WantCells(t, v, []int{38, 1}, 38, 0x2d, 1, 6)
	v = view.Whole(vals)
	wantFree(t, v, eight, empty, 0, 4, one(4, 1536))
	trial.WantCells(t, v, []int{34, 38, 1}, 38, 0x2d, 1, 4)
	vals = laid(of(4, 0x0f, 1), used(7))
	vals[38] = 0xf1
	v = view.Whole(vals)
	wantAlloc(t, v, eight, empty, 4, 1536, one(4, 1920, 1792, 1664))
	trial.WantCells(t, v, []int{17, 39, 36, 37, 38, 1}, 39, 0xff, 17, 0, 36, 0, 37, 0, 38, 0xf1, 1, 3)
}

// P18.2: of a page whose info says no class the first one is meant, as the lines say: of a used span, and of what no info is.
func TestFreeOfNoSlab(t *testing.T) {
	for _, val := range []uint32{used(1).Value(), 0, math.MaxUint32, 0x90013} {
		vals := laid(used(1), used(7))
		vals[34] = val
		v := view.Whole(vals)
		wantFree(t, v, eight, one(8, 7), 0, 31, with(one(8, 7), 0, 2016))
		trial.WantCells(t, v, []int{34, 38, 1}, 38, 0, 1, 1)
	}
}

// P18.3: what Flush reads and writes: the slots of the pocket that are on the page of the last one are given back, wherever they stand there; those of other pages, and the other pockets, stay as they are.
func TestFlush(t *testing.T) {
	for _, x := range []struct {
		vals   []uint32
		k      int
		p      api.Pockets
		n      int
		left   api.Pockets
		reads  []int
		writes []int
	}{
		{laid(of(4, 0x1f, 0x10), used(7)), 4, one(4, 1024, 1152, 1280, 1408), 4, empty, []int{34, 39}, []int{39, 0x10}},
		{laid(of(4, 0x1f, 0x10), used(7)), 4, one(4, 1408, 1024, 1280, 1152), 4, empty, []int{34, 39}, []int{39, 0x10}},
		{laid(of(4, 0x11, 0x10), used(7)), 4, one(4, 1024), 1, empty, []int{34, 39}, []int{39, 0x10}},
		{laid(of(8, 3, 1), of(8, 3, 1), used(6)), 8, one(8, 1536, 2560), 1, one(8, 1536), []int{40, 45, 21}, []int{45, 1, 42, 0, 43, 0, 21, 2}},
		{laid(of(8, 3, 1), of(8, 3, 1), used(6)), 8, one(8, 2560, 1536), 1, one(8, 2560), []int{34, 39, 21}, []int{39, 1, 36, 0, 37, 0, 21, 1}},
		{laid(of(7, 7, 2), of(7, 7, 2), used(6)), 7, one(7, 1024, 2048, 1696, 2720), 2, one(7, 1024, 1696), []int{40, 45, 20}, []int{45, 2, 42, 0, 43, 0, 20, 2}},
		{laid(of(7, 7, 2), of(7, 7, 2), used(6)), 7, one(7, 2720, 1696, 1024, 2048), 2, one(7, 1696, 1024), []int{40, 45, 20}, []int{45, 2, 42, 0, 43, 0, 20, 2}},
		{laid(of(7, 7, 2), of(5, 3, 2), used(6)), 7, with(one(7, 1696, 1024), 5, 2048), 2, one(5, 2048), []int{34, 39, 20}, []int{39, 2, 36, 0, 37, 0, 20, 1}},
		{laid(of(4, 0x10, 0), used(7)), 4, one(4, 1536), 1, empty, []int{34, 39, 36, 37, 40, 2, 0}, []int{17, 0, 36, 0, 37, 0, 39, 0, 34, 0x11, 35, 1, 2, 1, 0, 1}},
		{laid(of(8, 3, 0), used(7)), 8, one(8, 1024, 1536), 2, empty, []int{34, 39, 21, 40, 2, 0}, []int{39, 0, 36, 0, 37, 0, 21, 0, 34, 0x11, 35, 1, 2, 1, 0, 1}},
	} {
		v := view.Whole(x.vals)
		wantFlush(t, v, eight, x.p, x.k, x.n, x.left)
		trial.WantCells(t, v, x.reads, x.writes...)
	}
}

// P18.3: slots on as many pages are given back page by page, from that of the last one on.
func TestFlushPageByPage(t *testing.T) {
	v := view.Whole(laid(of(8, 3, 1), of(8, 3, 0), of(8, 3, 2), used(5)))
	p := one(8, 3072, 2048, 1536, 2560)
	wantFlush(t, v, eight, p, 8, 2, one(8, 3072, 1536))
	wantFlush(t, v, eight, one(8, 3072, 1536), 8, 1, one(8, 3072))
	wantFlush(t, v, eight, one(8, 3072), 8, 1, empty)
	reads := len(v.Reads())
	wantFlush(t, v, eight, empty, 8, 0, empty)
	if len(v.Reads()) != reads {
		t.Fatalf("Flush of an empty pocket reads %v", v.Reads()[reads:])
	}
}

// P18.3: where the pocket of the class is empty nothing is given back, and nothing is read or put, nor missing, whatever the others have.
func TestFlushOfAnEmptyPocket(t *testing.T) {
	for _, c := range slices.Concat(rights, none) {
		vals := trial.Rising(max(100, place.Cells(c)))
		for _, v := range []*view.View{view.Whole(vals), view.Known(len(vals), nil)} {
			for k := range classes {
				wantFlush(t, v, c, empty, k, 0, empty)
				others := one((k+1)%classes, 1024, 2048)
				wantFlush(t, v, c, others, k, 0, others)
				wantFlush(t, v, c, with(others, k, []int64{}...), k, 0, others)
			}
			trial.WantCells(t, v, nil)
		}
	}
}

// P18.1 to P18.3: a View that knows less tells what it misses, as the reads come; from there on nothing is put.
func TestMissing(t *testing.T) {
	// Behind the reads stands how much was put ahead of each one.
	alloc := func(p api.Pockets, k int) func(v *view.View) {
		return func(v *view.View) { small.Alloc(v, eight, p, k) }
	}
	trial.WantReads(t, laid(of(4, 0x0f, 1), used(7)), alloc(one(4, 1152, 1280, 1408), 4), []int{38, 1}, 0, 1)
	trial.WantReads(t, laid(of(4, 0x0b, 1), used(7)), alloc(empty, 4), []int{17, 39, 38, 1}, 0, 0, 1, 2)
	trial.WantReads(t, laid(of(4, 0xfe, 2), used(7)), alloc(empty, 4), []int{17, 39, 36, 37, 38, 1}, 0, 0, 1, 1, 4, 5)
	trial.WantReads(t, laid(used(8)), alloc(empty, 8), []int{21, 2, 3, 4, 5, 6, 7, 8, 9, 10, 11, 12})
	release := func(p api.Pockets, page, slot int) func(v *view.View) {
		return func(v *view.View) { small.Free(v, eight, p, page, slot) }
	}
	firsts := one(4, 1024, 1152, 1280, 1408)
	trial.WantReads(t, laid(of(4, 0x0f, 0x0d), used(7)), release(one(4, 1152), 0, 2), []int{34, 38, 1}, 0, 0, 1)
	trial.WantReads(t, laid(of(4, 0x1f, 0x10), used(7)), release(firsts, 0, 4), []int{34, 38, 1, 39}, 0, 0, 1, 2)
	trial.WantReads(t, laid(of(4, 0xff, 0xf0), used(7)), release(firsts, 0, 7), []int{34, 38, 1, 39, 17}, 0, 0, 1, 2, 3)
	flush := func(v *view.View) { small.Flush(v, eight, one(8, 1536, 2560), 8) }
	trial.WantReads(t, laid(of(8, 3, 1), of(8, 3, 1), used(6)), flush, []int{40, 45, 21}, 0, 0, 1)
}

// P18.1 to P18.3: nil, and a View without cells, have no slabs: there is no block but one that is at hand, and the pockets are as they are with cells.
func TestViewsWithoutCells(t *testing.T) {
	for _, v := range []*view.View{nil, new(view.View), view.Whole(nil), view.Known(0, nil)} {
		for _, c := range rights {
			for k := range classes {
				a := int64(1) << c.Shift
				wantNone(t, v, c, empty, k)
				wantAlloc(t, v, c, one(k, a), k, a, empty)
				wantFlush(t, v, c, one(k, a), k, 1, empty)
			}
			a := int64(1)<<c.Shift + 31*class.Size(c.Shift, 0)
			wantFree(t, v, c, empty, 0, 31, one(0, a))
			wantFree(t, v, c, one(0, 1, 2, 3, 4), 0, 31, one(0, 1, 2, 3, 4))
			trial.WantCells(t, v, nil)
		}
	}
}

// P18.1 to P18.3: lists that are handed in stay as they are, also where they have room behind what they hold: so of one Pockets several others may be made.
func TestNothingIsChanged(t *testing.T) {
	ground := []int64{1024, 1152, 1280, 7, 7, 7, 7}
	was := slices.Clone(ground)
	p := one(4, ground[:3]...)
	v := func() *view.View { return view.Whole(laid(of(4, 0xff, 0xf8), used(7))) }
	five := small.Free(v(), eight, p, 0, 5)
	seven := small.Free(v(), eight, p, 0, 7)
	_, less, _ := small.Alloc(v(), eight, p, 4)
	six := small.Free(v(), eight, less, 0, 6)
	_, bare := small.Flush(v(), eight, p, 4)
	four := small.Free(v(), eight, bare, 0, 4)
	if !slices.Equal(ground, was) {
		t.Fatalf("the list is %v, not %v", ground, was)
	}
	wantPockets(t, "Free of the slot 5", five, one(4, 1024, 1152, 1280, 1664))
	wantPockets(t, "Free of the slot 7", seven, one(4, 1024, 1152, 1280, 1920))
	wantPockets(t, "Alloc", less, one(4, 1024, 1152))
	wantPockets(t, "Free behind Alloc", six, one(4, 1024, 1152, 1792))
	wantPockets(t, "Flush", bare, empty)
	wantPockets(t, "Free behind Flush", four, one(4, 1536))
}
