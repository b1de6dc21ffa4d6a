package fresh_test

import (
	"fmt"
	"slices"
	"testing"

	"nacre/api"
	"nacre/audit"
	"nacre/fresh"
	"nacre/heap"
	"nacre/pocket"
	"nacre/sweep"
	"nacre/trial"
	"nacre/view"
)

// dealt is a fresh heap that a View works on, and its threads' Pockets, which are empty.
func dealt(c api.Config) trial.Dealt {
	return trial.Dealt{
		Ground: trial.Ground{C: c, V: view.Whole(fresh.Vals(c))},
		All:    make([]api.Pockets, c.Threads),
	}
}

// wantEmpty asks whether the values are a heap that holds nothing: one free part, no live blocks, and roots that name none.
func wantEmpty(t *testing.T, c api.Config, vals []uint32) {
	t.Helper()
	if n, ok := audit.Check(c, vals); !ok {
		t.Fatalf("of %v the rule %d does not hold", c, n)
	}
	if got, ok := audit.State(c, vals); !ok || !audit.Same(got, api.State{}) {
		t.Fatalf("the state of %v is %v", c, got)
	}
	want := []api.Part{{Kind: 1, Addr: 1 << c.Shift, Size: int64(c.Pages) << c.Shift}}
	if got := audit.Parts(c, vals); !slices.Equal(got, want) {
		t.Fatalf("the parts of %v are %v, not %v", c, got, want)
	}
}

// P25.3: the values are a heap that holds nothing, and empty pockets fit it; so there is nothing that would have to be given back.
func TestHoldsNothing(t *testing.T) {
	for _, c := range rights {
		d := dealt(c)
		wantEmpty(t, c, d.V.Vals())
		d.WantFits(t, "fresh")
		if n := sweep.All(d.V, c); n != 0 || len(d.V.Writes()) != 0 {
			t.Fatalf("of %v %d pages are swept", c, n)
		}
	}
}

// wantMisfit asks whether the Pockets do not fit the heap.
func wantMisfit(t *testing.T, d trial.Dealt) {
	t.Helper()
	if pocket.Fits(d.C, d.V.Vals(), d.All) {
		t.Fatalf("the pockets %v fit the heap of %v", d.All, d.C)
	}
}

// P25.3: just empty pockets fit: not those that have an address, and not those of another number of threads.
func TestNoOtherPocketsFit(t *testing.T) {
	for _, c := range rights {
		d := dealt(c)
		d.All[c.Threads-1][0] = []int64{1 << c.Shift}
		wantMisfit(t, d)
		d.All[c.Threads-1][0] = nil
		d.WantFits(t, "emptied")
		d.All = append(d.All, api.Pockets{})
		wantMisfit(t, d)
	}
}

// P25.3: a thread does operations on it, behind each of which there is a heap that the pockets fit: there is no block, and no root names one, till all pages are one block; that is freed, and all is free again.
func TestIsUsed(t *testing.T) {
	for _, c := range rights {
		d := dealt(c)
		first, size := int64(1)<<c.Shift, int64(c.Pages)<<c.Shift
		last := c.Threads - 1
		for turn, x := range []struct {
			op   api.Op
			want api.Result
		}{
			{api.Op{Kind: 8}, api.Result{Out: int64(c.Pages)}},
			{api.Op{Kind: 6, A: 7}, api.Result{}},
			{api.Op{Kind: 1, A: size + 1}, api.Result{Err: 2}},
			{api.Op{Kind: 2, A: first}, api.Result{Err: 4}},
			{api.Op{Kind: 1, A: size}, api.Result{Out: first, Aux: size}},
			{api.Op{Kind: 1, A: 1}, api.Result{Err: 3}},
			{api.Op{Kind: 8}, api.Result{Aux: 1}},
			{api.Op{Kind: 2, A: first}, api.Result{Out: size}},
			{api.Op{Kind: 8}, api.Result{Out: int64(c.Pages)}},
		} {
			var got api.Result
			got, d.All[last] = heap.Do(d.V, c, last, 1+turn, d.All[last], x.op)
			if got != x.want {
				t.Fatalf("%v on %v answers %v, not %v", x.op, c, got, x.want)
			}
			d.WantFits(t, fmt.Sprintf("turn %d", turn))
		}
	}
}
