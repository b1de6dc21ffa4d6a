package sweep_test

import (
	"fmt"
	"slices"
	"testing"

	"nacre/api"
	"nacre/audit"
	"nacre/heap"
	"nacre/place"
	"nacre/sweep"
	"nacre/trial"
	"nacre/view"
)

// ground is a heap whose pages are swept.
type ground struct{ trial.Ground }

// grounds are heaps of each sort, of which roots name blocks.
func grounds(t *testing.T) []ground {
	t.Helper()
	l := trial.Grounds(t, rights)
	for seed := range 60 {
		by := trial.Chance(seed)
		l = append(l, someLaid(t, &by))
	}
	var named []ground
	for _, g := range l {
		g.Name()
		named = append(named, ground{g})
	}
	return named
}

// copied is a heap that holds the same, of which nothing was read or put.
func (g ground) copied() ground { return ground{g.Copied()} }

// hasAtHand tells whether the page p is a slab of which slots are taken and not live.
func (g ground) hasAtHand(p int) bool {
	x := g.Held[p]
	return x.Kind == api.InSlab && x.Taken != x.Live
}

// apply has a page be one that is to have nothing at hand.
func (g ground) apply(p int) {
	x, ok := g.Held[p]
	if !ok {
		return
	}
	x.Taken = x.Live
	g.Held[p] = x
	if x.Kind == api.InSlab && x.Taken == 0 {
		delete(g.Held, p)
	}
}

// page sweeps a page, and asks whether it tells whether it had something at hand.
func (g ground) page(t *testing.T, p int) {
	t.Helper()
	wantPage(t, g.V, g.C, p, g.hasAtHand(p))
	g.apply(p)
}

// want asks whether there is a heap that holds just what it is to hold, which is what the values that were held; no root, and no thread's cell, may have been put.
func (g ground) want(t *testing.T, was []uint32, what string) {
	t.Helper()
	g.WantHeap(t, what)
	held, _ := audit.State(g.C, was)
	if got, ok := audit.State(g.C, g.V.Vals()); !ok || !audit.Same(got, held) {
		t.Fatalf("%s: the state of %v is %v, not %v", what, g.C, got, held)
	}
	for _, x := range g.V.Writes() {
		if x.Cell >= place.Root(0) && x.Cell < place.Info(g.C, 0) || x.Cell == place.Live {
			t.Fatalf("%s: of %v the cell %d is put", what, g.C, x.Cell)
		}
	}
}

// wantSwept asks whether no part is at hand, so that empty pockets fit, and whether All finds nothing more, and puts nothing.
func wantSwept(t *testing.T, c api.Config, vals []uint32, what string) {
	t.Helper()
	for _, x := range audit.Parts(c, vals) {
		if x.Kind == api.PtPocket {
			t.Fatalf("%s: of %v %v is at hand", what, c, x)
		}
	}
	v := view.Whole(vals)
	trial.Dealt{Ground: trial.Ground{C: c, V: v}, All: make([]api.Pockets, c.Threads)}.WantFits(t, what)
	wantAll(t, v, c, 0)
	if l := v.Writes(); len(l) != 0 {
		t.Fatalf("%s: of %v All puts %v once more", what, c, l)
	}
}

// P24.1, P24.3: behind Page of each page there is a heap that holds the same, in which just that page has nothing at hand; it tells whether it had.
func TestPageOfHeaps(t *testing.T) {
	for i, h := range grounds(t) {
		was := h.V.Vals()
		for p := range min(h.C.Pages, 200) {
			g := h.copied()
			g.page(t, p)
			g.want(t, was, fmt.Sprintf("heap %d, page %d", i, p))
			wantPage(t, g.V, g.C, p, false)
		}
	}
}

// P24.2, P24.3: behind All there is a heap that holds the same, and has nothing at hand; All once more tells 0, and puts nothing.
func TestAllOfHeaps(t *testing.T) {
	for i, h := range grounds(t) {
		was, what := h.V.Vals(), fmt.Sprintf("heap %d", i)
		g := h.copied()
		n := 0
		for p := range g.C.Pages {
			if g.hasAtHand(p) {
				n++
			}
			g.apply(p)
		}
		wantAll(t, g.V, g.C, n)
		g.want(t, was, what)
		wantSwept(t, g.C, g.V.Vals(), what)
	}
}

// P24.1, P24.3: pages are swept one by one, in no plain order, and some more than once: behind each there is a heap that holds the same; at last nothing is at hand.
func TestPagesInAnyOrder(t *testing.T) {
	for i, h := range grounds(t) {
		if h.C.Pages > 200 {
			continue
		}
		was, by := h.V.Vals(), trial.Chance(i)
		g := h.copied()
		for turn := range 2 * g.C.Pages {
			p := by.Next(g.C.Pages)
			g.page(t, p)
			g.want(t, was, fmt.Sprintf("heap %d, turn %d, page %d", i, turn, p))
		}
		for p := g.C.Pages - 1; p >= 0; p-- {
			g.page(t, p)
		}
		g.want(t, was, fmt.Sprintf("heap %d, at last", i))
		wantSwept(t, g.C, g.V.Vals(), fmt.Sprintf("heap %d, at last", i))
	}
}

// someOp is an operation by chance, of which most allocate or free small blocks.
func someOp(by *trial.Chance, d trial.Dealt) api.Op {
	size := int64(1+by.Next(1<<10)) << (d.C.Shift - 10)
	if l := d.Blocks(); len(l) > 0 && by.Next(3) == 0 {
		return api.Op{Kind: 2, A: l[by.Next(len(l))].Addr}
	}
	switch by.Next(8) {
	case 0:
		return api.Op{Kind: 1, A: 4 * size}
	case 1:
		return api.Op{Kind: 9, A: int64(by.Next(9))}
	case 2:
		return api.Op{Kind: 4, A: int64(by.Next(8)), B: size / 2}
	}
	return api.Op{Kind: 1, A: size/int64(by.Pick(2, 5, 16, 32)) + 1}
}

// P24.3: threads do operations, and lose their pockets now and then: behind All empty pockets fit, and so the threads go on; all that was live is.
func TestPocketsAreLost(t *testing.T) {
	for i, d := range trial.Dealts(t, rights) {
		by := trial.Chance(i)
		for turn := range 60 {
			what := fmt.Sprintf("heap %d, turn %d", i, turn)
			for range by.Next(8) {
				who := by.Next(d.C.Threads)
				_, d.All[who] = heap.Do(d.V, d.C, who, 1+turn, d.All[who], someOp(&by, d))
				d.WantFits(t, what)
			}
			was, _ := audit.State(d.C, d.V.Vals())
			sweep.All(d.V, d.C)
			clear(d.All)
			d.WantFits(t, what)
			if got, _ := audit.State(d.C, d.V.Vals()); !audit.Same(got, was) {
				t.Fatalf("%s: the state of %v is %v, not %v", what, d.C, got, was)
			}
			d.V = view.Whole(d.V.Vals())
		}
	}
}

// P24.3: what is at hand is free for all again: where a thread has all slots that are left at hand another one has no room, and behind All it has.
func TestRoomBehindAll(t *testing.T) {
	c := api.Config{Threads: 2, Pages: 4, Shift: 10}
	d := trial.Dealt{Ground: trial.LayGround(t, c, of(0, all, all&^7), used(3)), All: make([]api.Pockets, 2)}
	d.All[0][0] = []int64{1024, 1056, 1088}
	d.WantFits(t, "laid")
	o := api.Op{Kind: 1, A: 32}
	if r, _ := heap.Do(view.Whole(d.V.Vals()), c, 1, 1, d.All[1], o); r.Err != 3 {
		t.Fatalf("ahead of All %v is answered", r)
	}
	wantAll(t, d.V, c, 1)
	r, left := heap.Do(d.V, c, 1, 1, api.Pockets{}, o)
	if r != (api.Result{Out: 1024, Aux: 32}) || !slices.Equal(left[0], []int64{1088, 1056}) {
		t.Fatalf("behind All %v is answered, and %v left", r, left)
	}
}
