package block_test

import (
	"math"
	"slices"
	"testing"

	"nacre/api"
	"nacre/block"
	"nacre/class"
	"nacre/place"
	"nacre/trial"
	"nacre/view"
)

// classes is how many classes there are, as the document has it.
const classes = 9

// eight is the configuration of eight pages whose cells some tests write out: Info of the page p is the cell 34 and 6 times p, Slots that and 4. The page p has the addresses from 1024 times p + 1 on.
var eight = api.Config{Threads: 1, Pages: 8, Shift: 10}

// Configurations of each sort.
var (
	rights = trial.Rights(eight)
	wrong  = slices.Concat(trial.Wrongs(eight), trial.Pageless(eight), trial.Vast(eight))
)

// What heaps are laid of.
var (
	free = trial.Free
	used = trial.Used
	slab = trial.Slab
)

// laid is the values of a heap of eight pages.
func laid(pieces ...trial.Piece) []uint32 { return trial.Lay(eight, pieces...).Vals }

// with is the values, of which one cell has another one.
func with(vals []uint32, cell int, val uint32) []uint32 {
	vals = slices.Clone(vals)
	vals[cell] = val
	return vals
}

// pages is what is to be told of a block of n pages of eight, from the page p on.
func pages(p, n int) api.Found { return api.Found{Page: p, Len: n, Size: int64(n) * 1024} }

// slot is what is to be told of a block that is a slot of one of the eight pages, of so many bytes.
func slot(p, s, k int, size int64) api.Found {
	return api.Found{Small: true, Page: p, Slot: s, Class: k, Size: size}
}

// wantFound asks whether At tells this block.
func wantFound(t *testing.T, v *view.View, c api.Config, a int64, want api.Found) {
	t.Helper()
	if got, ok := block.At(v, c, a); got != want || !ok {
		t.Fatalf("At(%v, %d) = %v, %t, not %v", c, a, got, ok, want)
	}
}

// wantNone asks whether At tells that no block begins there.
func wantNone(t *testing.T, v *view.View, c api.Config, a int64) {
	t.Helper()
	if got, ok := block.At(v, c, a); got != (api.Found{}) || ok {
		t.Fatalf("At(%v, %d) = %v, %t, not none", c, a, got, ok)
	}
}

// P20.1: the chapter's example: a used span of two pages.
func TestExample(t *testing.T) {
	v := view.Whole(laid(used(2), free(6)))
	wantFound(t, v, eight, 1024, api.Found{Page: 0, Len: 2, Size: 2048})
	wantNone(t, v, eight, 2048)
}

// P20.1: a block of pages: at the first page, between others, at the last one, and of all pages; its info alone is read.
func TestAtOfPages(t *testing.T) {
	for _, x := range []struct {
		vals []uint32
		a    int64
		want api.Found
		read int
	}{
		{laid(used(3), free(5)), 1024, pages(0, 3), 34},
		{laid(used(3), used(1), used(4)), 4096, pages(3, 1), 52},
		{laid(used(3), used(1), used(4)), 5120, pages(4, 4), 58},
		{laid(free(7), used(1)), 8192, pages(7, 1), 76},
		{laid(slab(0, 1, 1), used(7)), 2048, pages(1, 7), 40},
		{laid(used(8)), 1024, pages(0, 8), 34},
	} {
		v := view.Whole(x.vals)
		wantFound(t, v, eight, x.a, x.want)
		trial.WantCells(t, v, []int{x.read})
	}
}

// P20.1: of each configuration a block of all pages, and one of the last page.
func TestAtOfPagesOfEachConfiguration(t *testing.T) {
	for _, c := range rights {
		page := int64(1) << c.Shift
		all := view.Whole(trial.Lay(c, used(c.Pages)).Vals)
		wantFound(t, all, c, page, api.Found{Len: c.Pages, Size: int64(c.Pages) * page})
		wantNone(t, all, c, int64(c.Pages)*page)
		last := view.Whole(trial.Lay(c, free(c.Pages-1), used(1)).Vals)
		wantFound(t, last, c, int64(c.Pages)*page, api.Found{Page: c.Pages - 1, Len: 1, Size: page})
		wantNone(t, last, c, page)
	}
}

// P20.1: within a block of pages, on its other pages, and on free ones, none begins: the page's info alone is read, also where Slots has bits.
func TestWhereNoBlockOfPagesBegins(t *testing.T) {
	vals := laid(used(2), free(2), used(1), slab(8, 1, 1), used(2))
	for _, x := range []struct {
		a          int64
		read, bits int
	}{
		{1025, 34, 38}, {1024 + 32, 34, 38}, {1024 + 512, 34, 38}, {2047, 34, 38},
		{2048, 40, 44}, {2049, 40, 44}, {2048 + 512, 40, 44}, {3071, 40, 44},
		{3072, 46, 50}, {3073, 46, 50}, {4096, 52, 56}, {4096 + 32, 52, 56}, {5119, 52, 56},
		{5121, 58, 62}, {6143, 58, 62}, {7169, 70, 74}, {8192, 76, 80}, {9215, 76, 80},
	} {
		for _, vals := range [][]uint32{vals, with(vals, x.bits, math.MaxUint32)} {
			v := view.Whole(vals)
			wantNone(t, v, eight, x.a)
			trial.WantCells(t, v, []int{x.read})
		}
	}
}

// P20.1: a slot that is live: the first one of its slab, one between others, and the last one; the page's info is read, and then its Slots.
func TestAtOfSlots(t *testing.T) {
	for _, x := range []struct {
		vals  []uint32
		a     int64
		want  api.Found
		reads []int
	}{
		{laid(slab(0, 1, 1), used(7)), 1024, slot(0, 0, 0, 32), []int{34, 38}},
		{laid(slab(0, math.MaxUint32, 1<<31), used(7)), 2016, slot(0, 31, 0, 32), []int{34, 38}},
		{laid(used(1), slab(1, 7, 4), used(6)), 2144, slot(1, 2, 1, 48), []int{40, 44}},
		{laid(used(1), slab(1, 1<<21-1, 1<<20), used(6)), 3008, slot(1, 20, 1, 48), []int{40, 44}},
		{laid(used(3), slab(4, 0xff, 0x88), used(4)), 4480, slot(3, 3, 4, 128), []int{52, 56}},
		{laid(used(3), slab(5, 31, 16), used(4)), 4864, slot(3, 4, 5, 192), []int{52, 56}},
		{laid(free(7), slab(7, 7, 7)), 8864, slot(7, 2, 7, 336), []int{76, 80}},
		{laid(free(7), slab(8, 3, 2)), 8704, slot(7, 1, 8, 512), []int{76, 80}},
	} {
		v := view.Whole(x.vals)
		wantFound(t, v, eight, x.a, x.want)
		trial.WantCells(t, v, x.reads)
	}
}

// P20.1: a slot that is not live is no block, taken or not, whatever the others are: Slots is read, and Taken is not.
func TestAtOfSlotsThatAreNotLive(t *testing.T) {
	for _, x := range []struct {
		vals  []uint32
		a     int64
		reads []int
	}{
		{laid(slab(0, 2, 2), used(7)), 1024, []int{34, 38}},
		{laid(slab(0, math.MaxUint32, math.MaxUint32>>1), used(7)), 2016, []int{34, 38}},
		{laid(used(1), slab(1, 7, 3), used(6)), 2144, []int{40, 44}},
		{laid(used(1), slab(4, 0xff, 0xfe), used(6)), 2048, []int{40, 44}},
		{laid(free(7), slab(8, 1, 1)), 8704, []int{76, 80}},
		{laid(free(7), slab(8, 3, 0)), 8192, []int{76, 80}},
	} {
		v := view.Whole(x.vals)
		wantNone(t, v, eight, x.a)
		trial.WantCells(t, v, x.reads)
	}
}

// P20.1: within a slot, and behind the slots of a slab, none begins, also where all bits of Slots are 1: the page's info alone is read.
func TestWhereNoSlotBegins(t *testing.T) {
	for _, x := range []struct {
		k   int
		off []int64
	}{
		{0, []int64{1, 16, 31, 33, 48, 1008, 1023}},
		{1, []int64{1, 16, 32, 47, 49, 64, 959, 961, 1008, 1009, 1023}},
		{3, []int64{1, 32, 48, 95, 97, 865, 960, 1023}},
		{5, []int64{1, 32, 191, 193, 769, 960, 961, 1023}},
		{7, []int64{1, 32, 335, 337, 673, 1008, 1009, 1023}},
		{8, []int64{1, 32, 256, 511, 513, 1023}},
	} {
		vals := with(laid(used(2), slab(x.k, 1, 1), used(5)), 50, math.MaxUint32)
		for _, off := range x.off {
			v := view.Whole(vals)
			wantNone(t, v, eight, 3072+off)
			trial.WantCells(t, v, []int{46})
		}
	}
}

// P20.1: each slot of each class, of configurations of each sort, is told just if its own bit is 1.
func TestAtOfEachSlot(t *testing.T) {
	for _, c := range rights {
		for k := range classes {
			first, size := int64(c.Pages)<<c.Shift, class.Size(c.Shift, k)
			for s := range class.Slots(k) {
				own, a := uint32(1)<<s, first+int64(s)*size
				live := view.Whole(trial.Lay(c, used(c.Pages-1), slab(k, own, own)).Vals)
				wantFound(t, live, c, a, api.Found{Small: true, Page: c.Pages - 1, Slot: s, Class: k, Size: size})
				dead := view.Whole(trial.Lay(c, used(c.Pages-1), slab(k, trial.Full(k), trial.Full(k)&^own)).Vals)
				wantNone(t, dead, c, a)
			}
		}
	}
}

// P20.1: an address that is no byte's: nothing is read or missing.
func TestNoBytesAddress(t *testing.T) {
	for _, c := range rights {
		vals := trial.Lay(c, used(c.Pages)).Vals
		page := int64(1) << c.Shift
		end := int64(c.Pages+1) << c.Shift
		for _, a := range []int64{0, 1, page - 1, end, end + 1, end + page, -1, -page, -end, 1<<32 + page, 1<<52 + page, 1<<62 + page, math.MaxInt64, math.MinInt64, math.MinInt64 + page} {
			for _, v := range []*view.View{view.Whole(vals), view.Known(len(vals), nil)} {
				wantNone(t, v, c, a)
				trial.WantCells(t, v, nil)
			}
		}
	}
}

// P20.1: of a configuration that is not right no address is a byte's: nothing is read.
func TestConfigurationsThatAreNotRight(t *testing.T) {
	for _, c := range wrong {
		for _, a := range []int64{0, 1, 512, 1024, 2048, 4096, 8192, 1 << 20, 1 << 21, 1 << 40} {
			v := view.Whole(laid(used(2), slab(0, math.MaxUint32, math.MaxUint32), used(5)))
			wantNone(t, v, c, a)
			trial.WantCells(t, v, nil)
		}
	}
}

// P20.1: a value that is no info is that of nothing: its page's info alone is read.
func TestValuesThatAreNoInfos(t *testing.T) {
	vals := with(laid(used(8)), 38, math.MaxUint32)
	for _, val := range []uint32{0, 2, 0x11, 0x81, 0x4012, 0x10022, 0x100022, 0x80000022, 0x3, 0x23, 0x90013, 0xf0013, 0x100013, 0x80000013, 0x14, 0x17, 0x1a, 0x1b, 0x12 | 1<<20, math.MaxUint32} {
		for _, a := range []int64{1024, 1056, 1536} {
			v := view.Whole(with(vals, 34, val))
			wantNone(t, v, eight, a)
			trial.WantCells(t, v, []int{34})
		}
	}
}

// P20.1: of values that are no heap the length is that of the info, also if there are not so many pages behind, and slots are those of the class.
func TestValuesThatAreNoHeap(t *testing.T) {
	vals := laid(used(8))
	wantFound(t, view.Whole(with(vals, 40, 0x4002)), eight, 2048, pages(1, 1024))
	wantFound(t, view.Whole(with(vals, 76, 0x22)), eight, 8192, pages(7, 2))
	v := view.Whole(with(with(vals, 76, 0x80013), 80, math.MaxUint32))
	wantFound(t, v, eight, 8704, slot(7, 1, 8, 512))
	wantNone(t, v, eight, 8704+256)
}

// P20.1: what was put is what is found, and it is not read.
func TestWhatWasPut(t *testing.T) {
	v := view.Whole(laid(free(8)))
	v.Put(46, 0x32)
	wantFound(t, v, eight, 3072, pages(2, 3))
	v.Put(46, 0x40013)
	v.Put(50, 2)
	wantNone(t, v, eight, 3072)
	wantFound(t, v, eight, 3200, slot(2, 1, 4, 128))
	trial.WantCells(t, v, nil, 46, 0x40013, 50, 2)
}

// P20.1: a View that knows less tells what it misses, as the reads come; then no block is told.
func TestMissing(t *testing.T) {
	vals := laid(used(2), slab(4, 7, 5), free(5))
	for _, x := range []struct {
		a     int64
		reads []int
	}{
		{1024, []int{34}}, {1025, []int{34}}, {2048, []int{40}},
		{3072, []int{46, 50}}, {3200, []int{46, 50}}, {3073, []int{46}}, {4096, []int{52}},
	} {
		trial.WantReads(t, vals, func(v *view.View) { block.At(v, eight, x.a) }, x.reads)
		for _, cell := range x.reads {
			wantNone(t, trial.Lacking(vals, cell), eight, x.a)
		}
	}
	others := []int{0, 1, 34, 35, 38, 39, 40, 44, 47, 48, 49, 51, 52, 56, 77, 81}
	wantFound(t, trial.Lacking(vals, others...), eight, 3328, slot(2, 2, 4, 128))
}

// P20.1: nil, and a View without cells, have no blocks.
func TestViewsWithoutCells(t *testing.T) {
	for _, v := range []*view.View{nil, new(view.View), view.Whole(nil), view.Known(0, nil)} {
		for _, c := range rights {
			for p := range 4 {
				wantNone(t, v, c, int64(p+1)<<c.Shift)
			}
			trial.WantCells(t, v, nil)
		}
	}
}

// P20.1: any addresses and configurations, of values that are a heap's or none's: it ends, and does not panic, and puts nothing.
func TestAnyArguments(t *testing.T) {
	by := trial.Chance(1)
	for _, c := range slices.Concat(rights, wrong) {
		for range 200 {
			vals := make([]uint32, by.Next(max(1, min(place.Cells(c), 1000)+9)))
			for at := range vals {
				vals[at] = []uint32{by.Info(8), by.Bits()}[by.Next(2)]
			}
			v := view.Whole(vals)
			for range 20 {
				block.At(v, c, int64(by.Bits())<<by.Next(33))
				block.At(v, c, -int64(by.Bits())<<by.Next(33))
				block.At(v, c, int64(by.Next(9))<<by.Next(64)+int64(by.Next(5))*16)
			}
			if l := v.Writes(); len(l) > 0 {
				t.Fatalf("of %v there was put %v", c, l)
			}
		}
	}
}
