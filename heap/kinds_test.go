package heap_test

import (
	"math"
	"slices"
	"testing"

	"nacre/api"
	"nacre/class"
	"nacre/trial"
	"nacre/view"
)

// noSizes are sizes that no block of a heap of eight pages has.
var noSizes = []int64{0, -1, -1024, 8193, 16384, 1 << 30, 1 << 31, 1 << 32, 1<<32 + 1, 1<<32 + 1024, math.MinInt64, math.MinInt64 + 1, math.MaxInt64}

// noBlocks are addresses at which no block of a heap of eight pages begins, and of which nothing is read: no byte has them.
var noBlocks = []int64{-1, -1024, 1, 32, 1023, 9216, 9217, 1 << 31, 1 << 32, 1<<32 + 1024, math.MinInt64, math.MinInt64 + 1024, math.MaxInt64}

// binsFrom is the cells of the bins from the k-th one on.
func binsFrom(k int) []int {
	var l []int
	for ; k < 11; k++ {
		l = append(l, 2+k)
	}
	return l
}

// allRoots is the cells of all roots.
var allRoots = []int{22, 23, 24, 25, 26, 27, 28, 29}

// cells is cells, by some and some.
func cells(l ...[]int) []int { return slices.Concat(l...) }

// P23.2, P23.3: OpAlloc of a size that no block has: ErrSize, and nothing is read, also where there is no room.
func TestAllocOfNoSize(t *testing.T) {
	for _, vals := range [][]uint32{laid(free(8)), laid(used(8))} {
		for _, size := range noSizes {
			deed{vals: vals, o: alloc(size), r: failed(2)}.want(t)
		}
	}
}

// P23.2, P23.3: OpAlloc of sizes at both ends of each class, and of each number of pages: what is allocated, and how many bytes may be used.
func TestAllocOfSizes(t *testing.T) {
	for _, c := range rights {
		page := int64(1) << c.Shift
		vals := trial.Lay(c, used(1), free(c.Pages-1)).Vals
		ask := func(size, usable int64) {
			t.Helper()
			x := row{t: t, v: view.Whole(vals), c: c}
			x.do(alloc(size), done(2*page, usable))
		}
		ahead := int64(0)
		for _, size := range class.Table(c.Shift) {
			ask(ahead+1, size)
			ask(size, size)
			ahead = size
		}
		for _, n := range []int64{1, 2, 3, int64(c.Pages) - 2, int64(c.Pages) - 1} {
			ask(max((n-1)*page, page/2)+1, n*page)
			ask(n*page, n*page)
		}
		x := row{t: t, v: view.Whole(vals), c: c}
		all := int64(c.Pages) * page
		x.do(alloc(all-page+1), failed(3))
		x.do(alloc(all), failed(3))
		x.do(alloc(all+1), failed(2))
		x = row{t: t, v: view.Whole(trial.Lay(c, free(c.Pages)).Vals), c: c}
		x.do(alloc(all), done(page, all))
	}
}

// P23.2, P23.3: what OpAlloc reads and puts, and leaves in the pockets: out of a pocket, out of a slab, out of a free page, and of pages.
func TestAlloc(t *testing.T) {
	for _, x := range []deed{
		{laid(of(4, 0x0f, 1), used(7)), one(4, 1152, 1280, 1408), alloc(100), done(1408, 128), one(4, 1152, 1280), []int{38, 1}, []int{38, 9, 1, 3}},
		{laid(of(4, 0x0f, 15), used(7)), one(3, 7), alloc(128), done(1536, 128), with(one(3, 7), 4, 1920, 1792, 1664), []int{17, 39, 36, 37, 38, 1},
			[]int{39, 255, 17, 0, 36, 0, 37, 0, 38, 31, 1, 6}},
		{laid(used(7), free(1)), empty, alloc(512), done(8192, 512), one(8, 8704), []int{21, 2, 76, 78, 79, 0, 81, 80, 1},
			[]int{2, 0, 78, 0, 79, 0, 76, 0x80013, 77, 8, 0, 0, 21, 0, 81, 3, 80, 1, 1, 2}},
		{laid(used(7), free(1)), one(8, 5), alloc(513), done(8192, 1024), one(8, 5), []int{2, 76, 78, 79, 0, 1}, []int{2, 0, 78, 0, 79, 0, 76, 0x12, 77, 8, 0, 0, 1, 2}},
		{laid(used(1), free(7)), empty, alloc(3000), done(2048, 3072), empty, []int{3, 4, 40, 42, 43, 0, 1},
			[]int{4, 5, 42, 0, 43, 0, 40, 0x32, 53, 2, 58, 0x41, 77, 5, 60, 0, 61, 0, 0, 4, 1, 2}},
	} {
		x.want(t)
	}
}

// P23.2, P23.4: where there is no room OpAlloc tells ErrRoom, and puts nothing but the thread's cells: of a class, though blocks of it may be at hand of another class, or slots free of one; of pages, though there may be so many that are not side by side.
func TestNoRoom(t *testing.T) {
	other := one(5, 1024)
	for _, x := range []deed{
		{laid(used(8)), empty, alloc(1), failed(3), empty, cells([]int{13}, binsFrom(0)), nil},
		{laid(of(5, 1, 0), used(7)), other, alloc(128), failed(3), other, cells([]int{17}, binsFrom(0)), nil},
		{laid(of(8, 3, 3), used(7)), empty, alloc(512), failed(3), empty, cells([]int{21}, binsFrom(0)), nil},
		{laid(of(5, 1, 0), used(7)), other, alloc(1024), failed(3), other, binsFrom(0), nil},
		{laid(free(2), used(1), free(5)), empty, alloc(6 * 1024), failed(3), empty, cells([]int{4, 52, 54}, binsFrom(3)), nil},
		{laid(free(2), used(1), free(2), used(3)), empty, alloc(2049), failed(3), empty, cells([]int{3, 34, 36, 52, 54}, binsFrom(2)), nil},
		{named(laid(used(8)), 1, 1024), empty, allocRoot(1, 100), failed(3), empty, cells([]int{17}, binsFrom(0)), nil},
		{named(laid(used(8)), 1, 1024), empty, allocRoot(1, 1000), failed(3), empty, binsFrom(0), nil},
	} {
		x.want(t)
	}
}

// P23.3: an address at which no block begins: ErrAddr of OpFree, OpRealloc, OpSetRoot and OpUsable; of one that no byte has nothing is read, of others just what tells that no block begins there.
func TestNoBlock(t *testing.T) {
	p := one(8, 3584)
	vals := named(laid(used(2), of(8, 3, 1), free(5)), 3, 1024)
	ask := func(a int64, reads ...int) {
		t.Helper()
		for _, o := range []api.Op{release(a), realloc(a, 1), realloc(a, 0), realloc(a, 9000), setRoot(3, a), usable(a)} {
			deed{vals, p, o, failed(4), p, reads, nil}.want(t)
		}
	}
	for _, a := range noBlocks {
		ask(a)
	}
	ask(1025, 34)
	ask(2048, 40)
	ask(3073, 46)
	ask(3584, 46, 50)
	ask(4096, 52)
	ask(9215, 76)
	for _, o := range []api.Op{release(0), realloc(0, 1), usable(0)} {
		deed{vals: vals, o: o, r: failed(4)}.want(t)
	}
}

// P23.3: a number of no root: ErrRoot of OpAllocRoot, OpSetRoot and OpGetRoot, also where the size, or the address, may not be; nothing is read.
func TestNoRoot(t *testing.T) {
	vals := laid(used(2), free(6))
	for _, i := range trial.NoRoots() {
		for _, o := range []api.Op{allocRoot(i, 1), allocRoot(i, 0), allocRoot(i, 9000), allocRoot(i, 8192), setRoot(i, 0), setRoot(i, 1024), setRoot(i, 7), getRoot(i)} {
			deed{vals: vals, o: o, r: failed(5)}.want(t)
		}
	}
}

// P23.3: what OpFree reads and puts: the block of pages, and the slot that goes into the pocket, or, if that is full, back to its slab, which is one no more if it was its last; Out is how many bytes might be used.
func TestFree(t *testing.T) {
	four := one(8, 3072, 3584, 4096, 4608)
	for _, x := range []deed{
		{laid(used(3), used(2), used(3)), empty, release(4096), done(2048, 0), empty, cells([]int{52}, allRoots, []int{47, 34, 64, 3, 0, 1}), []int{52, 0x21, 59, 4, 54, 0, 55, 0, 3, 4, 0, 2, 1, 2}},
		{named(laid(used(3), free(5)), 0, 2048, 7, 1), empty, release(1024), done(3072, 0), empty, cells([]int{34}, allRoots, []int{52, 54, 55, 5, 0, 1}),
			[]int{4, 0, 54, 0, 55, 0, 52, 0, 47, 0, 34, 0x81, 77, 1, 36, 0, 37, 0, 5, 1, 0, 8, 1, 0}},
		{laid(of(4, 15, 15), used(7)), one(4, 7), release(1280), done(128, 0), one(4, 7, 1280), cells([]int{34, 38}, allRoots, []int{1}), []int{38, 11, 1, 4}},
		{laid(of(8, 3, 2), used(1), of(8, 3, 0), of(8, 3, 0), used(4)), four, release(1536), done(512, 0), four, cells([]int{34, 38}, allRoots, []int{1, 39, 21}),
			[]int{38, 0, 1, 2, 39, 1, 36, 0, 37, 0, 21, 1}},
		{laid(of(8, 1, 1), used(1), of(8, 3, 0), of(8, 3, 0), used(4)), four, release(1024), done(512, 0), four, cells([]int{34, 38}, allRoots, []int{1, 39, 36, 37, 40, 2, 0}),
			[]int{38, 0, 1, 2, 21, 0, 36, 0, 37, 0, 39, 0, 34, 0x11, 35, 1, 2, 1, 0, 1}},
	} {
		x.want(t)
	}
}

// P23.3: OpFree of a block that a root names: ErrHeld, behind the first root that does, and the block is live.
func TestFreeOfHeld(t *testing.T) {
	for i := range roots {
		vals := named(laid(used(2), of(8, 3, 1), used(5)), i, 1024, 7, 1024, (i+1)%7, 3072)
		deed{vals: named(vals, i, 1024), o: release(1024), r: failed(6), reads: cells([]int{34}, allRoots[:i+1])}.want(t)
		vals = named(laid(used(2), of(8, 3, 1), used(5)), (i+3)%8, 1024, i, 3072)
		deed{vals: vals, p: one(8, 3584), o: release(3072), r: failed(6), left: one(8, 3584), reads: cells([]int{46, 50}, allRoots[:i+1])}.want(t)
	}
}

// P23.3: OpRealloc of a block to a size that no block has: ErrSize; that there is a block is asked ahead of it.
func TestReallocToNoSize(t *testing.T) {
	vals := laid(used(2), of(8, 3, 1), free(5))
	p := one(8, 3584)
	for _, size := range noSizes {
		deed{vals, p, realloc(1024, size), failed(2), p, []int{34}, nil}.want(t)
		deed{vals, p, realloc(3072, size), failed(2), p, []int{46, 50}, nil}.want(t)
	}
}

// P23.3 (1): OpRealloc of a small block, to each size of its class, leaves it as it is.
func TestReallocWithinItsClass(t *testing.T) {
	for k := range classes {
		vals := named(laid(used(1), of(k, 3, 2), used(6)), 0, 2048+int(class.Size(10, k)))
		from, to := int64(1), class.Size(10, k)
		if k > 0 {
			from = class.Size(10, k-1) + 1
		}
		a := 2048 + to
		p := one(k, 2048)
		for _, size := range []int64{from, (from + to) / 2, to} {
			deed{vals, p, realloc(a, size), done(a, to), p, []int{40, 44}, nil}.want(t)
		}
	}
}

// P23.3 (2): OpRealloc of a block of pages, to a size that no class has, leaves it where it stands, if there are pages enough: as many as it has, fewer, and more, that are free behind it.
func TestReallocWhereItStands(t *testing.T) {
	held := named(laid(used(3), free(2), used(3)), 2, 1024)
	for _, x := range []deed{
		{held, empty, realloc(1024, 3072), done(1024, 3072), empty, []int{34}, nil},
		{held, empty, realloc(1024, 2049), done(1024, 3072), empty, []int{34}, nil},
		{held, empty, realloc(1024, 5120), done(1024, 5120), empty, []int{34, 52, 54, 55, 0}, []int{3, 0, 54, 0, 55, 0, 52, 0, 47, 0, 34, 0x52, 59, 1, 0, 0}},
		{held, empty, realloc(1024, 3073), done(1024, 4096), empty, []int{34, 52, 54, 55, 2, 0}, []int{3, 0, 54, 0, 55, 0, 52, 0, 47, 0, 34, 0x42, 53, 1, 58, 0x11, 59, 5, 60, 0, 61, 0, 2, 5, 0, 1}},
		{laid(used(5), used(3)), empty, realloc(1024, 2048), done(1024, 2048), empty, []int{34, 64, 3, 0}, []int{34, 0x22, 41, 1, 46, 0x31, 59, 3, 48, 0, 49, 0, 3, 3, 0, 3}},
		{laid(free(2), used(6)), empty, realloc(3072, 513), done(3072, 1024), empty, []int{46, 4, 0}, []int{46, 0x12, 47, 3, 52, 0x51, 77, 4, 54, 0, 55, 0, 4, 4, 0, 7}},
		{laid(used(8)), empty, realloc(1024, 8192), done(1024, 8192), empty, []int{34}, nil},
	} {
		x.want(t)
	}
}

// P23.3 (3): what OpRealloc reads and puts where the block moves: it is allocated first, then the old one is freed, and then all roots that name the old one follow.
func TestReallocThatMoves(t *testing.T) {
	for _, x := range []deed{
		// Of three pages to four: those behind are used, so it takes those at the page 4.
		{named(laid(used(3), used(1), free(4)), 0, 1024, 3, 4096, 7, 1024), empty, realloc(1024, 4096), done(5120, 4096), empty,
			cells([]int{34, 52, 4, 58, 60, 61, 0, 1, 3}, allRoots),
			[]int{4, 0, 60, 0, 61, 0, 58, 0x42, 77, 5, 0, 3, 1, 2, 34, 0x31, 47, 1, 36, 0, 37, 0, 3, 1, 22, 5120, 29, 5120}},
		// Of a page to a slot of the class 8: also where it might be made shorter.
		{named(laid(used(1), of(8, 1, 1), used(6)), 1, 1024), empty, realloc(1024, 512), done(2560, 512), empty,
			cells([]int{34, 21, 45, 42, 43, 44, 1, 40, 2, 0}, allRoots),
			[]int{45, 3, 21, 0, 42, 0, 43, 0, 44, 3, 1, 3, 34, 0x11, 35, 1, 36, 0, 37, 0, 2, 1, 0, 1, 23, 2560}},
		// Of a slot to one of another class, out of the one pocket, and into the other one.
		{laid(of(4, 3, 1), of(5, 3, 2), used(6)), with(one(4, 1152), 5, 2048), realloc(2240, 100), done(1152, 128), one(5, 2048, 2240),
			cells([]int{40, 44, 38, 1}, allRoots), []int{38, 3, 1, 3, 44, 0}},
		// Of a slot to pages.
		{laid(of(4, 3, 1), used(5), free(2)), one(4, 1152), realloc(1024, 1025), done(7168, 2048), one(4, 1152, 1024),
			cells([]int{34, 38, 3, 70, 72, 73, 0, 1}, allRoots), []int{3, 0, 72, 0, 73, 0, 70, 0x22, 77, 7, 0, 0, 1, 2, 38, 0}},
	} {
		x.want(t)
	}
}

// P23.3 (3): where there is no room for the block that OpRealloc would make, the old one, the pockets and the roots are as they were: also where there would be room if the old one were freed first.
func TestReallocWithoutRoom(t *testing.T) {
	for _, x := range []deed{
		{laid(used(3), used(1), free(3), used(1)), empty, realloc(1024, 4096), failed(3), empty, cells([]int{34, 52}, binsFrom(2)), nil},
		{named(laid(free(3), used(5)), 4, 4096), empty, realloc(4096, 8192), failed(3), empty, cells([]int{52}, binsFrom(3)), nil},
		{laid(used(8)), empty, realloc(1024, 512), failed(3), empty, cells([]int{34, 21}, binsFrom(0)), nil},
		{laid(of(8, 1, 1), used(7)), empty, realloc(1024, 32), failed(3), empty, cells([]int{34, 38, 13}, binsFrom(0)), nil},
		{laid(of(8, 1, 1), used(7)), empty, realloc(1024, 513), failed(3), empty, cells([]int{34, 38}, binsFrom(0)), nil},
	} {
		x.want(t)
	}
}

// P23.3: OpAllocRoot allocates, and has the root name the block; Aux is what it was. Its size is asked behind its root, and the root is got behind the block.
func TestAllocRoot(t *testing.T) {
	vals := named(laid(used(1), of(4, 15, 7), free(6)), 0, 1024, 5, 2048, 7, 1024)
	p := one(4, 2432)
	for _, x := range []deed{
		{vals, p, allocRoot(7, 128), done(2432, 1024), empty, []int{44, 1, 29}, []int{44, 15, 1, 5, 29, 2432}},
		{vals, p, allocRoot(0, 6144), done(3072, 1024), p, []int{4, 46, 48, 49, 0, 1, 22}, []int{4, 0, 48, 0, 49, 0, 46, 0x62, 77, 3, 0, 0, 1, 5, 22, 3072}},
		{vals, p, allocRoot(1, 6144), done(3072, 0), p, []int{4, 46, 48, 49, 0, 1, 23}, []int{4, 0, 48, 0, 49, 0, 46, 0x62, 77, 3, 0, 0, 1, 5, 23, 3072}},
	} {
		x.want(t)
	}
	for _, size := range noSizes {
		deed{vals, p, allocRoot(5, size), failed(2), p, nil, nil}.want(t)
	}
}

// P23.3: OpSetRoot has the root name a live block, or nothing, and Aux is what it was; also what it was already. No other root is read.
func TestSetRoot(t *testing.T) {
	p := one(4, 2432)
	for i := range roots {
		vals := named(laid(used(1), of(4, 15, 7), free(6)), i, 1024, (i+1)%8, 2048)
		cell := 22 + i
		for _, x := range []deed{
			{vals, p, setRoot(int64(i), 0), done(0, 1024), p, []int{cell}, []int{cell, 0}},
			{vals, p, setRoot(int64(i), 1024), done(1024, 1024), p, []int{34, cell}, []int{cell, 1024}},
			{vals, p, setRoot(int64(i), 2304), done(2304, 1024), p, []int{40, 44, cell}, []int{cell, 2304}},
		} {
			x.want(t)
		}
	}
}

// P23.3: OpGetRoot tells what the root is, and OpUsable how many bytes a block has: nothing is put.
func TestGetRootAndUsable(t *testing.T) {
	vals := named(laid(used(3), of(0, 7, 1), of(8, 3, 2), free(3)), 0, 4096, 6, 1024, 7, 5632)
	for _, x := range []deed{
		{vals, empty, getRoot(0), done(4096, 0), empty, []int{22}, nil},
		{vals, empty, getRoot(1), done(0, 0), empty, []int{23}, nil},
		{vals, empty, getRoot(6), done(1024, 0), empty, []int{28}, nil},
		{vals, empty, getRoot(7), done(5632, 0), empty, []int{29}, nil},
		{vals, empty, usable(1024), done(3072, 0), empty, []int{34}, nil},
		{vals, empty, usable(4096), done(32, 0), empty, []int{52, 56}, nil},
		{vals, empty, usable(5632), done(512, 0), empty, []int{58, 62}, nil},
	} {
		x.want(t)
	}
}

// P23.3: OpStats tells how many pages are free, and how many blocks are live, slots among them.
func TestStats(t *testing.T) {
	for _, x := range []struct {
		vals       []uint32
		free, live int64
	}{
		{laid(free(8)), 8, 0},
		{laid(used(8)), 0, 1},
		{laid(free(2), used(1), free(1), of(0, 1<<32-1, 1<<32-2), of(4, 15, 3), free(2)), 5, 34},
	} {
		deed{vals: x.vals, o: stats(), r: done(x.free, x.live), reads: []int{0, 1}}.want(t)
	}
}

// P23.3: OpFlush tells how many slots are given back; of an empty pocket none, of no class ErrClass.
func TestFlush(t *testing.T) {
	vals := laid(of(8, 3, 1), of(4, 15, 1), of(8, 1, 0), free(5))
	p := with(one(4, 2304, 2176, 2432), 8, 1536, 3072)
	for _, x := range []deed{
		{vals, p, flush(4), done(3, 0), with(p, 4), []int{40, 45}, []int{45, 1}},
		{vals, p, flush(8), done(1, 0), with(p, 8, 1536), []int{46, 51, 48, 49, 41, 40, 52, 54, 55, 0},
			[]int{21, 0, 48, 0, 49, 0, 51, 0, 4, 3, 54, 0, 55, 0, 52, 0, 47, 0, 46, 0x61, 77, 3, 0, 6}},
		{vals, with(p, 8, 3072, 1536), flush(8), done(1, 0), with(p, 8, 3072), []int{34, 39, 21}, []int{39, 1, 36, 3, 37, 0, 49, 1, 21, 1}},
		{vals, p, flush(0), done(0, 0), p, nil, nil},
		{vals, p, flush(7), done(0, 0), p, nil, nil},
	} {
		x.want(t)
	}
	for _, k := range []int64{-1, -8, 9, 10, 256, 1 << 32, 1<<32 + 4, 1 << 62, math.MinInt64, math.MinInt64 + 4, math.MaxInt64} {
		deed{vals, p, flush(k), failed(7), p, nil, nil}.want(t)
	}
}
