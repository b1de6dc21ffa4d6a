package root_test

import (
	"math"
	"slices"
	"testing"

	"nacre/root"
	"nacre/trial"
	"nacre/view"
)

// first is the cell of the root 0, and count how many roots there are, as the document has them.
const (
	first = 22
	count = 8
)

// each is the cells of all roots, in their order.
var each = []int{22, 23, 24, 25, 26, 27, 28, 29}

// noRoots are numbers of no root, also those of which the low bits are one's, or that lead to other cells.
var noRoots = slices.Concat(trial.NoPages(), []int{-22, -21, -13, -7, 8, 9, 10, 29, 30, 255, 256})

// values are what a root can have, from 1 on: the edges, and others between.
var values = []int64{1, 2, 1023, 1024, 1<<16 - 1, 1 << 16, 1<<31 - 1, 1 << 31, 1<<31 + 1024, 1<<32 - 2, 1<<32 - 1}

// below are addresses below 0, also those of which the low bits are 0, or ones that a root can have.
var below = []int64{-1, -2, -1024, -1 << 31, -1 << 32, -1<<32 + 1, -1<<32 + 1024, -1<<40 + 1024, math.MinInt64, math.MinInt64 + 1024}

// beyond are addresses from 2^32 on, also those of which the low bits are 0, or ones that a root can have.
var beyond = []int64{1 << 32, 1<<32 + 1, 1<<32 + 1024, 1 << 33, 1<<40 + 1024, 1<<62 + 1024, math.MaxInt64 - 1, math.MaxInt64}

// laid is the values of some cells, each of them another one, of which the roots have these; those that are not told have 0.
func laid(has ...int64) []uint32 {
	vals := trial.Rising(first + count + 12)
	for i := range count {
		vals[first+i] = 0
		if i < len(has) {
			vals[first+i] = uint32(has[i])
		}
	}
	return vals
}

// some is eight values of which each is another one.
func some() []uint32 { return laid(1024, 2048, 1<<32-1, 1, 1<<31, 4096, 1056, 8192) }

// wantGet asks whether the root i is got as a.
func wantGet(t *testing.T, v *view.View, i int, a int64) {
	t.Helper()
	if got, ok := root.Get(v, i); got != a || !ok {
		t.Fatalf("Get(%d) = %d, %t, not %d", i, got, ok, a)
	}
}

// wantAll asks whether the roots have just these values.
func wantAll(t *testing.T, v *view.View, has ...int64) {
	t.Helper()
	for i := range count {
		wantGet(t, v, i, has[i])
	}
}

// wantSet asks whether Set tells this.
func wantSet(t *testing.T, v *view.View, i int, a int64, want bool) {
	t.Helper()
	if got := root.Set(v, i, a); got != want {
		t.Fatalf("Set(%d, %d) = %t", i, a, got)
	}
}

// wantHeld asks whether Held tells this.
func wantHeld(t *testing.T, v *view.View, a int64, want bool) {
	t.Helper()
	if got := root.Held(v, a); got != want {
		t.Fatalf("Held(%d) = %t", a, got)
	}
}

// wantVals asks whether the values are these.
func wantVals(t *testing.T, v *view.View, want []uint32) {
	t.Helper()
	if got := v.Vals(); !slices.Equal(got, want) {
		t.Fatalf("Vals() = %v, not %v", got, want)
	}
}

// views are one View of these values that knows all, and one that knows none.
func views(vals []uint32) []*view.View {
	return []*view.View{view.Whole(vals), view.Known(len(vals), nil)}
}

// P21.2: the chapter's example.
func TestExample(t *testing.T) {
	v := view.Whole(laid(0, 1024))
	wantHeld(t, v, 1024, true)
	trial.WantCells(t, v, []int{22, 23})
}

// P21.1: each root is got of its own cell, with what a root can have, and 0; nothing else is read.
func TestGet(t *testing.T) {
	for i := range count {
		for _, a := range append([]int64{0}, values...) {
			vals := some()
			vals[first+i] = uint32(a)
			v := view.Whole(vals)
			wantGet(t, v, i, a)
			wantGet(t, v, i, a)
			trial.WantCells(t, v, []int{first + i})
		}
	}
}

// P21.1: of no root 0 is told, and false: nothing is read, and nothing missing.
func TestGetOfNoRoot(t *testing.T) {
	for _, i := range noRoots {
		for _, v := range views(some()) {
			if got, ok := root.Get(v, i); got != 0 || ok {
				t.Fatalf("Get(%d) = %d, %t", i, got, ok)
			}
			trial.WantCells(t, v, nil)
		}
	}
}

// P21.1, P21.3: each root is set to what a root can have, and 0: its cell alone is put, and no cell is read; then it is got as it was set, and the others as they were.
func TestSet(t *testing.T) {
	for i := range count {
		for _, a := range append([]int64{0}, values...) {
			want := some()
			v := view.Whole(want)
			wantSet(t, v, i, a, true)
			trial.WantCells(t, v, nil, first+i, int(a))
			want[first+i] = uint32(a)
			wantVals(t, v, want)
			wantGet(t, v, i, a)
			trial.WantCells(t, v, nil, first+i, int(a))
		}
	}
}

// P21.1: a root that has the same already is put, too, and one that is set again is what it was set to last.
func TestSetAgain(t *testing.T) {
	v := view.Whole(some())
	wantSet(t, v, 1, 2048, true)
	trial.WantCells(t, v, nil, 23, 2048)
	wantSet(t, v, 6, 7, true)
	wantSet(t, v, 1, 0, true)
	wantSet(t, v, 6, 1<<32-1, true)
	trial.WantCells(t, v, nil, 23, 0, 28, 1<<32-1)
	wantAll(t, v, 1024, 0, 1<<32-1, 1, 1<<31, 4096, 1<<32-1, 8192)
}

// P21.1: no root is set, whatever to: nothing is read, put or missing.
func TestSetOfNoRoot(t *testing.T) {
	for _, i := range noRoots {
		for _, a := range slices.Concat([]int64{0}, values, below, beyond) {
			for _, v := range views(some()) {
				wantSet(t, v, i, a, false)
				trial.WantCells(t, v, nil)
			}
		}
	}
}

// P21.1: a root is not set to what none can have: nothing is read, put or missing.
func TestSetToWhatNoRootCanHave(t *testing.T) {
	for i := range count {
		for _, a := range slices.Concat(below, beyond) {
			for _, v := range views(some()) {
				wantSet(t, v, i, a, false)
				trial.WantCells(t, v, nil)
			}
		}
	}
}

// P21.2: an address that one root has: it is held, and the roots up to that one are read.
func TestHeldByOne(t *testing.T) {
	for i := range count {
		for _, a := range values {
			vals := laid(3, 3, 3, 3, 3, 3, 3, 3)
			vals[first+i] = uint32(a)
			v := view.Whole(vals)
			wantHeld(t, v, a, true)
			trial.WantCells(t, v, each[:i+1])
		}
	}
}

// P21.2: an address that several roots have: the roots up to the first one are read.
func TestHeldBySeveral(t *testing.T) {
	for _, x := range []struct {
		has  []int64
		read int
	}{
		{[]int64{1024, 1024, 1024, 1024, 1024, 1024, 1024, 1024}, 1},
		{[]int64{0, 0, 1024, 0, 1024}, 3},
		{[]int64{2048, 1023, 1025, 0, 0, 0, 1024, 1024}, 7},
	} {
		v := view.Whole(laid(x.has...))
		wantHeld(t, v, 1024, true)
		trial.WantCells(t, v, each[:x.read])
	}
}

// P21.2: an address that no root has is not held, also if other cells have it, or a root has its low bits: all roots are read, and nothing is put.
func TestHeldByNone(t *testing.T) {
	vals := some()
	vals[first-1], vals[first+count], vals[0], vals[1] = 3072, 3072, 3072, 3072
	for _, a := range slices.Concat([]int64{3072, 1023, 1025, 2, 1<<32 - 2}, beyond) {
		v := view.Whole(vals)
		wantHeld(t, v, a, false)
		trial.WantCells(t, v, each)
	}
}

// P21.2: what is below 1 is not held, also if a root has 0, or its low bits: nothing is read or missing.
func TestHeldBelowOne(t *testing.T) {
	for _, a := range append([]int64{0}, below...) {
		for _, vals := range [][]uint32{some(), laid()} {
			for _, v := range views(vals) {
				wantHeld(t, v, a, false)
				trial.WantCells(t, v, nil)
			}
		}
	}
}

// P21.2, P21.3: of roots that have what is followed each one is put to what follows, and no other one; all are read.
func TestFollow(t *testing.T) {
	for _, x := range []struct {
		has    []int64
		writes []int
		want   []int64
	}{
		{[]int64{1024, 0, 0, 0, 0, 0, 0, 0}, []int{22, 4096}, []int64{4096, 0, 0, 0, 0, 0, 0, 0}},
		{[]int64{0, 0, 0, 0, 0, 0, 0, 1024}, []int{29, 4096}, []int64{0, 0, 0, 0, 0, 0, 0, 4096}},
		{[]int64{2048, 1024, 0, 1023, 1025, 1024, 1, 1024}, []int{23, 4096, 27, 4096, 29, 4096}, []int64{2048, 4096, 0, 1023, 1025, 4096, 1, 4096}},
		{[]int64{4096, 1024, 4096, 0, 0, 0, 0, 0}, []int{23, 4096}, []int64{4096, 4096, 4096, 0, 0, 0, 0, 0}},
		{[]int64{2048, 0, 4096, 1<<31 + 1024, 1<<16 + 1024, 0, 0, 1}, nil, []int64{2048, 0, 4096, 1<<31 + 1024, 1<<16 + 1024, 0, 0, 1}},
		{[]int64{0, 0, 0, 0, 0, 0, 0, 0}, nil, []int64{0, 0, 0, 0, 0, 0, 0, 0}},
		{[]int64{1024, 1024, 1024, 1024, 1024, 1024, 1024, 1024}, []int{22, 4096, 23, 4096, 24, 4096, 25, 4096, 26, 4096, 27, 4096, 28, 4096, 29, 4096}, []int64{4096, 4096, 4096, 4096, 4096, 4096, 4096, 4096}},
	} {
		v := view.Whole(laid(x.has...))
		root.Follow(v, 1024, 4096)
		trial.WantCells(t, v, each, x.writes...)
		wantVals(t, v, laid(x.want...))
		wantAll(t, v, x.want...)
		wantHeld(t, v, 1024, false)
	}
}

// P21.2: from each of what a root can have to each other one, and to itself: a root that follows itself is put, too.
func TestFollowFromAndTo(t *testing.T) {
	for _, from := range values {
		for _, to := range values {
			v := view.Whole(laid(0, from, 3, 3, from))
			root.Follow(v, from, to)
			trial.WantCells(t, v, each, 23, int(to), 26, int(to))
			wantAll(t, v, 0, to, 3, 3, to, 0, 0, 0)
			wantHeld(t, v, to, true)
			wantHeld(t, v, from, from == to)
		}
	}
}

// P21.2: nothing follows, or is followed, that no root names: nothing is read, put or missing, also if roots have 0, or the low bits.
func TestFollowOfWhatNoRootNames(t *testing.T) {
	wrong := slices.Concat([]int64{0}, below, beyond)
	for _, a := range wrong {
		for _, b := range slices.Concat([]int64{1, 1024, 1<<32 - 1}, wrong) {
			for _, vals := range [][]uint32{some(), laid()} {
				for _, v := range slices.Concat(views(vals), views(vals)) {
					root.Follow(v, a, b)
					root.Follow(v, b, a)
					trial.WantCells(t, v, nil)
				}
			}
		}
	}
}

// P21.2: roots that were set are held, and followed, as they were set, and they are not read.
func TestWhatWasSet(t *testing.T) {
	v := view.Whole(laid(1024, 1024, 1024))
	wantSet(t, v, 1, 0, true)
	wantSet(t, v, 3, 1024, true)
	wantSet(t, v, 0, 2048, true)
	wantHeld(t, v, 1024, true)
	trial.WantCells(t, v, []int{24}, 23, 0, 25, 1024, 22, 2048)
	root.Follow(v, 1024, 2048)
	trial.WantCells(t, v, []int{24, 26, 27, 28, 29}, 23, 0, 25, 2048, 22, 2048, 24, 2048)
	wantHeld(t, v, 1024, false)
	root.Follow(v, 2048, 4096)
	wantAll(t, v, 4096, 0, 4096, 4096, 0, 0, 0, 0)
}

// P21.1, P21.2: a View that knows less tells what it misses, as the reads come; what is put ahead of that is put.
func TestReads(t *testing.T) {
	vals := laid(0, 1024, 2048, 1024, 0, 0, 1024, 0)
	for i := range count {
		trial.WantReads(t, vals, func(v *view.View) { root.Get(v, i) }, each[i:i+1])
		trial.WantReads(t, vals, func(v *view.View) { root.Set(v, i, 7) }, nil)
	}
	trial.WantReads(t, vals, func(v *view.View) { root.Held(v, 1024) }, each[:2])
	trial.WantReads(t, vals, func(v *view.View) { root.Held(v, 2048) }, each[:3])
	trial.WantReads(t, vals, func(v *view.View) { root.Held(v, 4096) }, each)
	trial.WantReads(t, vals, func(v *view.View) { root.Follow(v, 1024, 4096) }, each, 0, 0, 1, 1, 2, 2, 2, 3)
	trial.WantReads(t, vals, func(v *view.View) { root.Follow(v, 4096, 1024) }, each)
}

// P21.1, P21.2: of a View of which a cell is missing each root is got as 0, none is held, and none is put, and still Set tells true.
func TestMissing(t *testing.T) {
	v := trial.Lacking(some(), first+2)
	wantHeld(t, v, 8192, false)
	wantAll(t, v, 0, 0, 0, 0, 0, 0, 0, 0)
	wantHeld(t, v, 1024, false)
	wantSet(t, v, 0, 4096, true)
	root.Follow(v, 1024, 4096)
	if l, at := v.Writes(), v.Missing(); len(l) > 0 || at != first+2 || !slices.Equal(v.Reads(), each[:2]) {
		t.Fatalf("there was put %v, read %v, and %d is missing", l, v.Reads(), at)
	}
}

// P21.1, P21.2: a View without cells has roots that are got as 0, and are not put.
func TestViewsWithoutCells(t *testing.T) {
	for _, v := range []*view.View{nil, new(view.View), view.Whole(nil), view.Known(0, nil), view.Whole(laid()[:first])} {
		for i := range count {
			wantSet(t, v, i, 1024, true)
			wantGet(t, v, i, 0)
			wantSet(t, v, i, -1, false)
		}
		wantSet(t, v, count, 1024, false)
		wantHeld(t, v, 1024, false)
		root.Follow(v, 1024, 2048)
		trial.WantCells(t, v, nil)
	}
}

// P21.1, P21.2: a View that ends within the roots has those that are there.
func TestViewsWithSomeRoots(t *testing.T) {
	v := view.Whole(laid(1024, 2048, 1024, 1024)[:first+3])
	wantAll(t, v, 1024, 2048, 1024, 0, 0, 0, 0, 0)
	root.Follow(v, 1024, 4096)
	wantSet(t, v, 3, 4096, true)
	trial.WantCells(t, v, each[:3], 22, 4096, 24, 4096)
	wantHeld(t, v, 1024, false)
	wantHeld(t, v, 4096, true)
}
