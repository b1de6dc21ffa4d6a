// Package trial has what the tests of several layers share: configurations of each sort, words of memories, heaps that are laid piece by piece, questions about what was read and put of a View, and numbers that look like ones by chance. No layer stands on it.
package trial

import (
	"slices"

	"nacre/api"
	"nacre/view"
)

// T is the test that asks.
type T interface {
	Helper()
	Fatalf(format string, args ...any)
}

// WantCells asks whether just these cells were read, and put, so ordered; those that were put are told by turns with their values. None may be missing.
func WantCells(t T, v *view.View, reads []int, writes ...int) {
	t.Helper()
	var l []api.Pair
	for i := 0; i < len(writes); i += 2 {
		l = append(l, api.Pair{Cell: writes[i], Val: uint32(writes[i+1])})
	}
	wantCells(t, "", v, reads, l, -1)
}

// WantSame asks whether the same was read, put and missed of a View as of another one, and its cells have the same values.
func WantSame(t T, what string, v, as *view.View) {
	t.Helper()
	wantCells(t, what, v, as.Reads(), as.Writes(), as.Missing())
	if got, want := v.Vals(), as.Vals(); !slices.Equal(got, want) {
		t.Fatalf("%s: Vals() = %v, not %v", what, got, want)
	}
}

// WantMore asks whether the blocks are those others, and just one more.
func WantMore(t T, what string, got, others []api.Block, more api.Block) {
	t.Helper()
	at := slices.Index(got, more)
	if at < 0 || !slices.Equal(slices.Delete(slices.Clone(got), at, at+1), others) {
		t.Fatalf("%s: the live blocks are %v, not %v and %v", what, got, others, more)
	}
}

func wantCells(t T, what string, v *view.View, reads []int, writes []api.Pair, missing int) {
	t.Helper()
	if got := v.Reads(); !slices.Equal(got, reads) {
		t.Fatalf("%s: Reads() = %v, not %v", what, got, reads)
	}
	if got := v.Writes(); !slices.Equal(got, writes) {
		t.Fatalf("%s: Writes() = %v, not %v", what, got, writes)
	}
	if got := v.Missing(); got != missing {
		t.Fatalf("%s: Missing() = %d, not %d", what, got, missing)
	}
}

// Lacking is a View of the cells of vals, of which just these are not known.
func Lacking(vals []uint32, cells ...int) *view.View {
	var l []api.Pair
	for i, val := range vals {
		if !slices.Contains(cells, i) {
			l = append(l, api.Pair{Cell: i, Val: val})
		}
	}
	return view.Known(len(vals), l)
}

// WantReads asks, of what is done on a View, whether it reads just these cells, so ordered: whether a View that knows those up to any one of them misses that one, and has put the first so many of the cells that are put; and one that knows all of them does as one that knows all there are.
func WantReads(t T, vals []uint32, do func(*view.View), reads []int, puts ...int) {
	t.Helper()
	whole := view.Whole(vals)
	do(whole)
	var l []api.Pair
	for at, i := range reads {
		some := view.Known(len(vals), l)
		do(some)
		ahead := 0
		if at < len(puts) {
			ahead = puts[at]
		}
		wantCells(t, "of some cells", some, reads[:at], whole.Writes()[:ahead], i)
		l = append(l, api.Pair{Cell: i, Val: vals[i]})
	}
	some := view.Known(len(vals), l)
	do(some)
	wantCells(t, "of those that are read", some, whole.Reads(), whole.Writes(), -1)
}
