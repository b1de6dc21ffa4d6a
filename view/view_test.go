package view_test

import (
	"math"
	"slices"
	"testing"

	"nacre/api"
	"nacre/trial"
	"nacre/view"
)

// nowhere are numbers of cells that no View of fewer than 4096 has, also those of which the low bits could be one.
var nowhere = []int{
	-1, -2, -3, -4, -8, -64, -4096, -1 << 16, -1 << 31, -1 << 32, -1<<32 + 1, math.MinInt, math.MinInt + 1,
	4096, 1 << 16, 1<<16 + 1, 1 << 31, 1<<31 + 1, 1 << 32, 1<<32 + 1, 1<<32 + 2, 1 << 60, 1 << 62, math.MaxInt - 1, math.MaxInt,
}

// rising is n values of which each is another one, and none is 0.
func rising(n int) []uint32 {
	vals := make([]uint32, n)
	for i := range vals {
		vals[i] = uint32(i)<<16 + 7
	}
	return vals
}

// pairsOf are the pairs of all cells, by their numbers.
func pairsOf(vals []uint32) []api.Pair {
	var l []api.Pair
	for i, val := range vals {
		l = append(l, api.Pair{Cell: i, Val: val})
	}
	return l
}

// pairs are pairs of cells and values, told by turns.
func pairs(l ...int) []api.Pair {
	var p []api.Pair
	for i := 0; i < len(l); i += 2 {
		p = append(p, api.Pair{Cell: l[i], Val: uint32(l[i+1])})
	}
	return p
}

// wantGet asks whether the cell i is val.
func wantGet(t *testing.T, v *view.View, i int, val uint32) {
	t.Helper()
	if got := v.Get(i); got != val {
		t.Fatalf("Get(%d) = %x, not %x", i, got, val)
	}
}

// wantReads asks whether just these cells were read, so ordered.
func wantReads(t *testing.T, v *view.View, cells ...int) {
	t.Helper()
	if got := v.Reads(); !slices.Equal(got, cells) {
		t.Fatalf("Reads() = %v, not %v", got, cells)
	}
}

// wantWrites asks whether just these cells were put, so ordered; they are told by turns with their values.
func wantWrites(t *testing.T, v *view.View, l ...int) {
	t.Helper()
	if got, want := v.Writes(), pairs(l...); !slices.Equal(got, want) {
		t.Fatalf("Writes() = %v, not %v", got, want)
	}
}

// wantMissing asks whether the cell i is missing; of -1, whether none is.
func wantMissing(t *testing.T, v *view.View, i int) {
	t.Helper()
	if got := v.Missing(); got != i {
		t.Fatalf("Missing() = %d, not %d", got, i)
	}
}

// wantVals asks whether these are the values of all cells.
func wantVals(t *testing.T, v *view.View, vals ...uint32) {
	t.Helper()
	if got := v.Vals(); !slices.Equal(got, vals) {
		t.Fatalf("Vals() = %x, not %x", got, vals)
	}
}

// wantFresh asks whether nothing was read or put, and nothing is missing.
func wantFresh(t *testing.T, v *view.View) {
	t.Helper()
	wantReads(t, v)
	wantWrites(t, v)
	wantMissing(t, v, -1)
}

// wantNoCells asks whether there are no cells, whatever is got and put.
func wantNoCells(t *testing.T, v *view.View) {
	t.Helper()
	wantFresh(t, v)
	wantVals(t, v)
	for _, i := range append([]int{0, 1, 2, 3, 63, 64}, nowhere...) {
		wantGet(t, v, i, 0)
		v.Put(i, 9)
		wantGet(t, v, i, 0)
		wantFresh(t, v)
		wantVals(t, v)
	}
}

// P11.1: Whole has so many cells as there are values, and knows all of them.
func TestWholeOfHowManyValues(t *testing.T) {
	wantNoCells(t, view.Whole(nil))
	wantNoCells(t, view.Whole([]uint32{}))
	for n := range 70 {
		v := view.Whole(rising(n))
		wantFresh(t, v)
		wantVals(t, v, rising(n)...)
		var reads []int
		for i, val := range rising(n) {
			wantGet(t, v, i, val)
			reads = append(reads, i)
		}
		wantReads(t, v, reads...)
		wantGet(t, v, n, 0)
		v.Put(n, 5)
		wantGet(t, v, n, 0)
		wantReads(t, v, reads...)
		wantWrites(t, v)
		wantMissing(t, v, -1)
		wantVals(t, v, rising(n)...)
	}
}

// P11.1: room behind the values is no part of them.
func TestWholeOfValuesWithRoomBehind(t *testing.T) {
	wantNoCells(t, view.Whole(rising(4)[:0]))
	v := view.Whole(rising(4)[:2])
	wantGet(t, v, 2, 0)
	v.Put(2, 5)
	v.Put(3, 5)
	wantFresh(t, v)
	wantVals(t, v, rising(2)...)
}

// P11.1: a value that is known may be any, also 0, and the greatest.
func TestAnyValueIsKnown(t *testing.T) {
	vals := []uint32{0, 1, math.MaxInt32, 1 << 31, math.MaxUint32}
	for _, v := range []*view.View{view.Whole(vals), view.Known(5, pairsOf(vals))} {
		for i, val := range vals {
			wantGet(t, v, i, val)
		}
		wantReads(t, v, 0, 1, 2, 3, 4)
		wantMissing(t, v, -1)
	}
}

// P11.1: of a cell that is there several times the first one's value counts, also if that is 0, and the others stand far behind it.
func TestKnownOfACellSeveralTimes(t *testing.T) {
	v := view.Known(4, pairs(1, 9, 1, 8, 3, 0, 0, 5, 3, 7, 1, 0, 0, 6, 3, 0))
	wantGet(t, v, 1, 9)
	wantGet(t, v, 3, 0)
	wantGet(t, v, 0, 5)
	wantReads(t, v, 1, 3, 0)
	wantMissing(t, v, -1)
	wantGet(t, v, 2, 0)
	wantMissing(t, v, 2)
}

// P11.1: cells that there are not go by: they are no cells, and make none of their neighbours known.
func TestKnownOfCellsThatThereAreNot(t *testing.T) {
	for n := range 5 {
		var l []api.Pair
		for _, i := range append([]int{n, n + 1, n + 64}, nowhere...) {
			l = append(l, api.Pair{Cell: i, Val: 3})
		}
		if n > 0 {
			l = append(l, api.Pair{Cell: n - 1, Val: 8})
		}
		v := view.Known(n, l)
		for _, p := range l {
			if p.Cell != n-1 {
				wantGet(t, v, p.Cell, 0)
				v.Put(p.Cell, 1)
				wantGet(t, v, p.Cell, 0)
			}
		}
		wantFresh(t, v)
		if n > 0 {
			wantGet(t, v, n-1, 8)
			wantReads(t, v, n-1)
		}
		if n > 1 {
			wantGet(t, v, 0, 0)
			wantMissing(t, v, 0)
		}
	}
}

// P11.1: of no pairs no cell is known, but each may be put.
func TestKnownOfNoPairs(t *testing.T) {
	for _, l := range [][]api.Pair{nil, {}} {
		for n := 1; n < 5; n++ {
			for i := range n {
				v := view.Known(n, l)
				wantFresh(t, v)
				wantGet(t, v, n, 0)
				wantMissing(t, v, -1)
				v.Put(n-1-i, 4)
				wantGet(t, v, n-1-i, 4)
				wantMissing(t, v, -1)
				v = view.Known(n, l)
				wantGet(t, v, i, 0)
				wantMissing(t, v, i)
				wantReads(t, v)
			}
		}
	}
}

// P11.1: of an n of 0 or below there are no cells, whatever the pairs are.
func TestKnownOfNoCells(t *testing.T) {
	for _, n := range []int{0, -1, -2, -64, -1 << 31, -1 << 32, -1<<32 + 4, math.MinInt, math.MinInt + 4} {
		wantNoCells(t, view.Known(n, nil))
		wantNoCells(t, view.Known(n, pairsOf(rising(4))))
		wantNoCells(t, view.Known(n, pairs(n, 1, n-1, 2, n+1, 3, -1, 4, 0, 5)))
	}
}

// P11.1, P11.2: n may be very great: there are these cells then.
func TestKnownOfVeryManyCells(t *testing.T) {
	for _, n := range []int{1 << 31, 1<<32 + 1, math.MaxInt} {
		v := view.Known(n, pairs(n-1, 6, n, 7, 0, 8))
		wantGet(t, v, n-1, 6)
		wantGet(t, v, n, 0)
		wantGet(t, v, 0, 8)
		v.Put(n-2, 3)
		v.Put(n, 3)
		wantGet(t, v, n-2, 3)
		wantReads(t, v, n-1, 0)
		wantWrites(t, v, n-2, 3)
		wantVals(t, v)
		wantMissing(t, v, -1)
		wantGet(t, v, n-3, 0)
		wantMissing(t, v, n-3)
	}
}

// P11.1: values and pairs that were given stay as they were, whatever is done to the View, and the View, whatever is done to them.
func TestWhatWasGivenStays(t *testing.T) {
	vals, l := rising(4), append(pairsOf(rising(4)), pairs(2, 5, 9, 5, -1, 5)...)
	given, known := slices.Clone(vals), slices.Clone(l)
	whole, some := view.Whole(given), view.Known(4, known)
	for _, v := range []*view.View{whole, some} {
		for i := range 5 {
			v.Get(i)
			v.Put(i, 1)
			v.Put(i, 2)
			v.Put(-i, 3)
		}
		clear(v.Vals())
		clear(v.Writes())
		clear(v.Reads())
	}
	if !slices.Equal(given, vals) || !slices.Equal(known, l) {
		t.Fatalf("what was given is %x and %v", given, known)
	}

	whole, some = view.Whole(given), view.Known(4, known)
	clear(given)
	clear(known)
	for i, val := range vals {
		wantGet(t, whole, i, val)
		wantGet(t, some, i, val)
	}
	wantVals(t, whole, vals...)
}

// P11.3: what Reads, Writes and Vals gave does not change the View when it is written to, nor does it change with the View.
func TestWhatWasToldIsACopy(t *testing.T) {
	for _, v := range []*view.View{view.Whole(rising(4)), view.Known(4, pairsOf(rising(4)))} {
		all := v.Vals()
		v.Get(2)
		v.Get(1)
		v.Put(3, 8)
		v.Put(0, 9)
		reads, writes, vals := v.Reads(), v.Writes(), v.Vals()
		v.Put(3, 1)
		v.Get(0)
		v.Put(1, 1)
		v.Put(3, 8)
		if !slices.Equal(reads, []int{2, 1}) || !slices.Equal(writes, pairs(3, 8, 0, 9)) {
			t.Fatalf("what was told is %v and %v now", reads, writes)
		}
		if len(vals) != 0 && (!slices.Equal(all, rising(4)) || vals[1] != rising(4)[1]) {
			t.Fatalf("what was told is %x and %x now", all, vals)
		}
		reads[0], writes[0], writes[1].Val = 3, api.Pair{Cell: 2, Val: 2}, 2
		clear(all)
		clear(vals)
		_, _ = append(reads[:1], 0), append(writes[:0], writes[1])
		wantGet(t, v, 2, rising(4)[2])
		wantGet(t, v, 3, 8)
		wantGet(t, v, 0, 9)
		wantReads(t, v, 2, 1)
		wantWrites(t, v, 3, 8, 0, 9, 1, 1)
	}
	v := view.Whole(rising(3))
	clear(v.Vals())
	wantVals(t, v, rising(3)...)
	wantGet(t, v, 1, rising(3)[1])
}

// P11.2: a Get of no such cell is 0; it is no read, and nothing is missing by it; a Put of one is nothing.
func TestNowhere(t *testing.T) {
	for _, v := range []*view.View{view.Whole(rising(3)), view.Known(3, pairsOf(rising(3))), view.Known(3, nil)} {
		for _, i := range append([]int{3, 4, 5, 64}, nowhere...) {
			wantGet(t, v, i, 0)
			v.Put(i, 5)
			wantGet(t, v, i, 0)
			wantFresh(t, v)
		}
	}
	v := view.Whole(rising(3))
	for _, i := range nowhere {
		v.Put(i, 5)
	}
	wantVals(t, v, rising(3)...)
}

// P11.2, P11.3: a Get of a cell that was put tells what it was put to last, also of a cell that is not known, and is no read.
func TestGetOfACellThatWasPut(t *testing.T) {
	for _, v := range []*view.View{view.Whole(rising(4)), view.Known(4, pairsOf(rising(4))), view.Known(4, nil)} {
		for _, val := range []uint32{5, 0, math.MaxUint32, 6, 6, 0} {
			for i := range 4 {
				v.Put(i, val+uint32(i))
				wantGet(t, v, i, val+uint32(i))
				wantGet(t, v, i, val+uint32(i))
			}
		}
		wantReads(t, v)
		wantMissing(t, v, -1)
		wantWrites(t, v, 0, 0, 1, 1, 2, 2, 3, 3)
	}
}

// P11.2: a Put of a cell leaves all others as they are known.
func TestPutOfOneCellLeavesTheOthers(t *testing.T) {
	for at := range 6 {
		for _, v := range []*view.View{view.Whole(rising(6)), view.Known(6, pairsOf(rising(6)))} {
			v.Put(at, 1)
			for i, val := range rising(6) {
				if i == at {
					val = 1
				}
				wantGet(t, v, i, val)
			}
			wantWrites(t, v, at, 1)
		}
	}
}

// P11.2, P11.3: a cell that is put to what it is known to be was put all the same.
func TestPutOfTheValueThatIsKnown(t *testing.T) {
	for _, v := range []*view.View{view.Whole(rising(3)), view.Known(3, pairsOf(rising(3)))} {
		v.Put(1, rising(3)[1])
		wantGet(t, v, 1, rising(3)[1])
		wantReads(t, v)
		wantWrites(t, v, 1, int(rising(3)[1]))
	}
}

// P11.2: a Get of a known cell reads it, also where its value is 0.
func TestGetOfAKnownCellReadsIt(t *testing.T) {
	for i := range 4 {
		for _, v := range []*view.View{view.Whole(make([]uint32, 4)), view.Known(4, pairs(i, 0))} {
			wantGet(t, v, i, 0)
			wantReads(t, v, i)
			wantMissing(t, v, -1)
			wantWrites(t, v)
		}
	}
}

// P11.2: a Get of a cell that is not known is 0, and that cell is missing from then on; it was not read.
func TestGetOfACellThatIsNotKnown(t *testing.T) {
	for i := range 5 {
		var l []api.Pair
		for _, p := range pairsOf(rising(5)) {
			if p.Cell != i {
				l = append(l, p)
			}
		}
		v := view.Known(5, l)
		wantFresh(t, v)
		wantGet(t, v, (i+1)%5, rising(5)[(i+1)%5])
		wantMissing(t, v, -1)
		wantGet(t, v, i, 0)
		wantMissing(t, v, i)
		wantMissing(t, v, i)
		wantReads(t, v, (i+1)%5)
		wantWrites(t, v)
		wantVals(t, v)
	}
}

// P11.2, P11.3: behind a missing cell every Get is 0 and every Put nothing, also of cells that are known or were put; what was read and put ahead of it is still told.
func TestBehindAMissingCell(t *testing.T) {
	v := view.Known(6, pairs(0, 5, 1, 6, 2, 7))
	wantGet(t, v, 1, 6)
	v.Put(2, 8)
	v.Put(4, 9)
	wantGet(t, v, 3, 0)
	for range 2 {
		for _, i := range append([]int{0, 1, 2, 3, 4, 5, 6}, nowhere...) {
			wantGet(t, v, i, 0)
			v.Put(i, 1)
			wantGet(t, v, i, 0)
			wantMissing(t, v, 3)
			wantReads(t, v, 1)
			wantWrites(t, v, 2, 8, 4, 9)
		}
	}
	wantVals(t, v)
}

// P11.2: the cell that was missing first stays missing, also the cell 0.
func TestTheFirstMissingCellStaysMissing(t *testing.T) {
	for i := range 4 {
		v := view.Known(4, nil)
		for k := range 8 {
			wantGet(t, v, (i+k)%4, 0)
			wantMissing(t, v, i)
		}
	}
}

// P11.3: Reads tells each cell once, as they were first read.
func TestReadsTellsEachCellOnce(t *testing.T) {
	for _, v := range []*view.View{view.Whole(rising(9)), view.Known(9, pairsOf(rising(9)))} {
		for _, i := range []int{7, 3, 3, 7, 0, 3, 8, 0, 9, 8, -1, 1, 7, 1} {
			v.Get(i)
		}
		wantReads(t, v, 7, 3, 0, 8, 1)
		for i := range 9 {
			v.Get(i)
		}
		wantReads(t, v, 7, 3, 0, 8, 1, 2, 4, 5, 6)
	}
}

// P11.3: Writes tells each cell once, as they were first put, with the values that they were put to last.
func TestWritesTellsEachCellOnce(t *testing.T) {
	for _, v := range []*view.View{view.Whole(rising(9)), view.Known(9, pairsOf(rising(9))), view.Known(9, nil)} {
		for val, i := range []int{7, 3, 3, 7, 0, 3, 8, 0, 9, 8, -1, 1, 7, 1} {
			v.Put(i, uint32(val))
		}
		wantWrites(t, v, 7, 12, 3, 5, 0, 7, 8, 9, 1, 13)
		v.Put(4, 0)
		v.Put(3, 0)
		wantWrites(t, v, 7, 12, 3, 0, 0, 7, 8, 9, 1, 13, 4, 0)
	}
}

// P11.2, P11.3: a cell that was read and then put is among both; what is got behind the Put reads it no more; one that was put and then got is among those that were put alone.
func TestReadThenPutAndPutThenGot(t *testing.T) {
	for _, v := range []*view.View{view.Whole(rising(4)), view.Known(4, pairsOf(rising(4)))} {
		wantGet(t, v, 2, rising(4)[2])
		v.Put(2, 5)
		wantGet(t, v, 2, 5)
		v.Put(1, 6)
		wantGet(t, v, 1, 6)
		wantGet(t, v, 3, rising(4)[3])
		wantReads(t, v, 2, 3)
		wantWrites(t, v, 2, 5, 1, 6)
		wantMissing(t, v, -1)
	}
}

// P11.3: Vals of one that Whole made are what cells were put to last, else what was known; what is told is no read.
func TestValsOfAWhole(t *testing.T) {
	v := view.Whole(rising(5))
	wantVals(t, v, rising(5)...)
	wantFresh(t, v)
	vals := rising(5)
	for _, p := range pairs(4, 1, 0, 0, 2, 8, 4, 9, 2, 0) {
		v.Put(p.Cell, p.Val)
		vals[p.Cell] = p.Val
		wantVals(t, v, vals...)
	}
	wantReads(t, v)
	wantGet(t, v, 1, vals[1])
	v.Put(5, 3)
	v.Put(-1, 3)
	wantVals(t, v, vals...)
	wantWrites(t, v, 4, 9, 0, 0, 2, 0)
}

// P11.3: Vals of one that Known made are nothing, also if all its cells are known, or were put.
func TestValsOfAKnown(t *testing.T) {
	v := view.Known(3, pairsOf(rising(3)))
	wantVals(t, v)
	for i := range 3 {
		v.Get(i)
		v.Put(i, 1)
		wantVals(t, v)
	}
	v = view.Known(3, nil)
	for i := range 3 {
		v.Put(i, 1)
	}
	wantVals(t, v)
}

// P11.3: nil, and a View that neither made, have no cells.
func TestViewThatNeitherMade(t *testing.T) {
	for _, v := range []*view.View{nil, new(view.View), {}} {
		wantNoCells(t, v)
	}
}

// P11.1: Views know nothing of one another, also where they were given the same.
func TestViewsAreApart(t *testing.T) {
	vals, l := rising(3), pairsOf(rising(3))
	for _, two := range [][2]*view.View{{view.Whole(vals), view.Whole(vals)}, {view.Known(3, l), view.Known(3, l)}} {
		two[0].Put(1, 9)
		two[0].Get(2)
		wantFresh(t, two[1])
		wantGet(t, two[1], 1, vals[1])
		wantReads(t, two[1], 1)
	}
}

// P11.1 to P11.3: the chapter's example.
func TestExample(t *testing.T) {
	v := view.Whole([]uint32{5, 6})
	wantGet(t, v, 1, 6)
	v.Put(1, 7)
	wantGet(t, v, 1, 7)
	wantReads(t, v, 1)
	wantWrites(t, v, 1, 7)
	wantVals(t, v, 5, 7)
	v = view.Known(2, pairs(0, 5))
	wantGet(t, v, 1, 0)
	wantMissing(t, v, 1)
}

// row is a row of acts that a change could make: what is got decides what is put, and where.
func row(v *view.View, seed, acts int) (got []uint32) {
	c := trial.Chance(seed)
	for range acts {
		i := c.Next(14) - 1
		if c.Next(3) > 0 {
			val := v.Get(i)
			got = append(got, val)
			c ^= trial.Chance(val)
		} else {
			v.Put(i, uint32(c.Next(5)))
		}
	}
	return got
}

// P11.4: what is done on a View that knows all that is read is what is done on one that knows all; with one of these reads less it is missing.
func TestKnowingWhatIsReadIsEnough(t *testing.T) {
	vals := rising(12)
	for seed := range 300 {
		whole := view.Whole(vals)
		want := row(whole, seed, 30)
		var l []api.Pair
		for _, i := range whole.Reads() {
			l = append(l, api.Pair{Cell: i, Val: vals[i]})
		}
		some := view.Known(12, l)
		if got := row(some, seed, 30); !slices.Equal(got, want) {
			t.Fatalf("it is got %x, not %x", got, want)
		}
		wantReads(t, some, whole.Reads()...)
		wantMissing(t, some, -1)
		if got := some.Writes(); !slices.Equal(got, whole.Writes()) {
			t.Fatalf("Writes() = %v, not %v", got, whole.Writes())
		}
		for at, p := range l {
			less := view.Known(12, slices.Delete(slices.Clone(l), at, at+1))
			row(less, seed, 30)
			wantMissing(t, less, p.Cell)
			wantReads(t, less, whole.Reads()[:at]...)
		}
	}
}

// plain is a View as the chapter tells it, with all that may be known, put and read written out.
type plain struct {
	vals, put     [12]uint32
	knows, is     [12]bool
	reads, writes []int
	missing       int
}

// get is what the chapter says of Get.
func (p *plain) get(i int) uint32 {
	switch {
	case i < 0 || i >= 12 || p.missing >= 0:
		return 0
	case p.is[i]:
		return p.put[i]
	case !p.knows[i]:
		p.missing = i
		return 0
	}
	if !slices.Contains(p.reads, i) {
		p.reads = append(p.reads, i)
	}
	return p.vals[i]
}

// putTo is what the chapter says of Put.
func (p *plain) putTo(i int, val uint32) {
	if i < 0 || i >= 12 || p.missing >= 0 {
		return
	}
	if !p.is[i] {
		p.writes = append(p.writes, i)
	}
	p.put[i], p.is[i] = val, true
}

// wantSame asks whether v is as p.
func (p *plain) wantSame(t *testing.T, v *view.View, whole bool) {
	t.Helper()
	wantReads(t, v, p.reads...)
	var l []int
	for _, i := range p.writes {
		l = append(l, i, int(p.put[i]))
	}
	wantWrites(t, v, l...)
	wantMissing(t, v, p.missing)
	var vals []uint32
	for i := range 12 {
		if whole && p.is[i] {
			vals = append(vals, p.put[i])
		} else if whole {
			vals = append(vals, p.vals[i])
		}
	}
	wantVals(t, v, vals...)
}

// P11.1 to P11.3: long rows of gets and puts, held against a View whose rules are written out.
func TestLongRows(t *testing.T) {
	for seed := range 400 {
		c := trial.Chance(seed)
		p := &plain{missing: -1}
		var l []api.Pair
		whole := seed%4 == 0
		for i := range 12 {
			p.vals[i] = uint32(c.Next(4))
			if p.knows[i] = whole || c.Next(8) > 0; p.knows[i] {
				l = append(l, api.Pair{Cell: i, Val: p.vals[i]})
			}
		}
		v := view.Known(12, l)
		if whole {
			v = view.Whole(p.vals[:])
		}
		p.wantSame(t, v, whole)
		for range 60 {
			i, val := c.Next(16)-2, uint32(c.Next(4))
			if c.Next(2) == 0 {
				wantGet(t, v, i, p.get(i))
			} else {
				v.Put(i, val)
				p.putTo(i, val)
			}
			p.wantSame(t, v, whole)
		}
	}
}
