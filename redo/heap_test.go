package redo_test

import (
	"testing"

	"nacre/api"
	"nacre/fresh"
	"nacre/heap"
	"nacre/mark"
	"nacre/place"
	"nacre/redo"
	"nacre/sweep"
	"nacre/trial"
	"nacre/view"
)

// kept is a heap's memory that changes are made on, and cut off; vals is what its words settle to.
type kept struct {
	trial.Dealt
	w     []uint64
	vals  []uint32
	stamp uint32
}

// want asks what the words settle to, and, of what is tidied, whether it settles to the same, stays as it is, and has just these values in its cells.
func (k kept) want(t *testing.T, what string, w []uint64, vals []uint32) {
	t.Helper()
	tidy, ok := redo.Tidy(k.C, w)
	if !ok {
		t.Fatalf("%s: words of %v are not tidied", what, k.C)
	}
	wantSettled(t, what, trial.Memory{Config: k.C, W: w}, vals, tidy)
	wantSettled(t, "tidied", trial.Memory{Config: k.C, W: tidy}, vals, tidy)
	for i, val := range vals {
		if got := mark.Val(tidy[place.Word(k.C, i)]); got != val {
			t.Fatalf("%s: the cell %d is %d, not %d", what, i, got, val)
		}
	}
}

// cut makes the change of a maker on the memory, and asks wherever it may be cut off what the words settle to: ahead of the tip's swap to what they settled to before, and behind it to what the change makes. It leaves the words as they are somewhere behind that swap.
func (k *kept) cut(t *testing.T, by *trial.Chance, u int, writes []api.Pair, vals []uint32) {
	t.Helper()
	w, ok := redo.Lay(k.C, k.w, u, k.stamp+1, writes)
	if !ok {
		t.Fatalf("%d entries are not laid for %d of %v", len(writes), u, k.C)
	}
	k.want(t, "logged", w, k.vals)
	k.stamp++
	w[place.Tip], _ = mark.Tip(k.stamp, u)
	k.w, k.vals = w, vals
	k.want(t, "made", k.w, vals)
	at := by.Next(len(writes) + 1)
	for range at {
		p := writes[by.Next(len(writes))]
		k.w[place.Word(k.C, p.Cell)] = mark.Cell(k.stamp, p.Val)
	}
	k.want(t, "turned in part", k.w, vals)
	// Whoever comes next makes all of it.
	k.w, _ = redo.Tidy(k.C, k.w)
}

// lose has all threads lose what they had at hand, and gives it back, each page by one change of the mending.
func (k *kept) lose(t *testing.T, by *trial.Chance) {
	t.Helper()
	clear(k.All)
	for p := range k.C.Pages {
		k.V = view.Whole(k.vals)
		if sweep.Page(k.V, k.C, p) {
			k.cut(t, by, k.C.Threads, k.V.Writes(), k.V.Vals())
		}
	}
	k.WantFits(t, "swept")
}

// P27.2 to P27.4: rows of operations of all threads, and now and then the mending of what they lost: each is a change that is cut off, and ahead of the tip's swap it is not made, and behind it it is, whichever of its cells are turned already.
func TestChangesThatAreCutOff(t *testing.T) {
	for seed := range 60 {
		by := trial.Chance(seed)
		c := api.Config{Threads: 1 + by.Next(4), Pages: 4 + by.Next(12), Shift: 10 + by.Next(11)}
		k := kept{w: fresh.Words(c), vals: fresh.Vals(c), stamp: 1}
		k.Dealt = trial.Dealt{Ground: trial.Ground{C: c}, All: make([]api.Pockets, c.Threads)}
		for num := range 60 {
			u := by.Next(c.Threads)
			k.V = view.Whole(k.vals)
			o := by.Op(c, k.Blocks(), k.All[u])
			_, k.All[u] = heap.Do(k.V, c, u, 1+num, k.All[u], o)
			k.WantFits(t, "done")
			k.cut(t, &by, u, k.V.Writes(), k.V.Vals())
			if by.Next(12) == 0 {
				k.lose(t, &by)
			}
		}
	}
}
