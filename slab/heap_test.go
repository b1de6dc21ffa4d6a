package slab_test

import (
	"fmt"
	"math/bits"
	"slices"
	"testing"

	"nacre/api"
	"nacre/audit"
	"nacre/bin"
	"nacre/class"
	"nacre/link"
	"nacre/place"
	"nacre/slab"
	"nacre/trial"
	"nacre/view"
)

// heap is a heap whose slots are taken, and given back.
type heap struct{ trial.Ground }

// slot is a slot of the slab p.
type slot struct{ p, s int }

// heaps are heaps of each sort, also of many slabs of few classes.
func heaps(t *testing.T) []heap {
	t.Helper()
	var l []heap
	for _, g := range trial.Grounds(t, rights) {
		l = append(l, heap{g})
	}
	for seed := range 12 {
		l = append(l, slabs(t, seed))
	}
	return l
}

// slabs is a heap of slabs of two classes alone, most of them not full, with free pages and used ones between.
func slabs(t *testing.T, seed int) heap {
	t.Helper()
	by := trial.Chance(seed)
	c := api.Config{Threads: 1 + by.Next(3), Pages: 8 + by.Next(20), Shift: 10 + by.Next(11)}
	kinds := []int{by.Next(9), by.Next(9)}
	var l []trial.Piece
	for range c.Pages {
		k := by.Pick(kinds...)
		taken := 1 + by.Bits()%trial.Full(k)
		switch by.Next(8) {
		case 0:
			l = append(l, used(1))
		case 1:
			l = append(l, free(1))
		default:
			l = append(l, of(k, taken, taken&by.Bits()))
		}
	}
	return heap{trial.LayGround(t, c, l...)}
}

// copied is a heap that holds the same.
func (h heap) copied() heap { return heap{h.Copied()} }

// wantKept asks whether there is a heap that holds just what it is to hold, and of which the live blocks, and the roots, are those of the values that were.
func (h heap) wantKept(t *testing.T, was []uint32, what string) {
	t.Helper()
	h.WantHeap(t, what)
	want, _ := audit.State(h.C, was)
	if got, _ := audit.State(h.C, h.V.Vals()); !audit.Same(got, want) {
		t.Fatalf("%s: the state of %v is %v, not %v", what, h.C, got, want)
	}
}

// next is the page of which Pick is to tell slots: the first one of the rack, else the free one that is found; false, if there is none.
func (h heap) next(k int) (int, bool) {
	v := view.Whole(h.V.Vals())
	if l := link.Walk(v, h.C, place.Rack(k)); len(l) > 0 {
		return l[0], true
	}
	return bin.Find(v, h.C, 1)
}

// pick takes slots of the class k. They are to be the first ones that are free, of the page that is next, and not to be live.
func (h heap) pick(t *testing.T, k, want int) []slot {
	t.Helper()
	was := h.V.Vals()
	p, ok := h.next(k)
	if !ok {
		wantPick(t, h.V, h.C, k, want, -1)
		h.WantVals(t, was)
		return nil
	}
	x := h.Held[p]
	if x.Kind != api.InSlab {
		x = of(k, 0, 0)
	}
	var l []slot
	var slots []int
	for s := range class.Slots(k) {
		if x.Taken>>s&1 == 0 && len(l) < want {
			l = append(l, slot{p, s})
			slots = append(slots, s)
		}
	}
	wantPick(t, h.V, h.C, k, want, p, slots...)
	for _, s := range slots {
		x.Taken |= 1 << s
	}
	h.Held[p] = x
	return l
}

// give gives a slot back that is taken and not live.
func (h heap) give(at slot) {
	slab.Give(h.V, h.C, at.p, at.s)
	x := h.Held[at.p]
	x.Taken &^= 1 << at.s
	h.Held[at.p] = x
	if x.Taken == 0 {
		delete(h.Held, at.p)
	}
}

// slots are the slots of slabs of which the bits are told, by their pages, rising.
func (h heap) slots(bits func(x trial.Piece) uint32) []slot {
	var l []slot
	for _, p := range h.Begins(api.InSlab) {
		for s := range 32 {
			if bits(h.Held[p])>>s&1 == 1 {
				l = append(l, slot{p, s})
			}
		}
	}
	return l
}

// atHand are the slots that are taken and not live.
func (h heap) atHand() []slot {
	return h.slots(func(x trial.Piece) uint32 { return x.Taken &^ x.Live })
}

// some are at most n of some slots, by chance.
func some(by *trial.Chance, l []slot, n int) []slot {
	l = mixed(by, l)
	return l[:min(n, len(l))]
}

// mixed are the slots in no plain order.
func mixed(by *trial.Chance, l []slot) []slot {
	l = slices.Clone(l)
	for at := range l {
		to := by.Next(at + 1)
		l[at], l[to] = l[to], l[at]
	}
	return l
}

// reversed are the slots from the last one on.
func reversed(l []slot) []slot {
	l = slices.Clone(l)
	slices.Reverse(l)
	return l
}

// P16.1, P16.3: behind Pick of each class, and of each number of slots, there is a heap that holds the same, in which these slots are taken and not live; behind Give of them, in any order, it holds what it held.
func TestPickOfHeaps(t *testing.T) {
	for i, h := range heaps(t) {
		h.Name()
		was := h.V.Vals()
		by := trial.Chance(i)
		for k := range 9 {
			for want := 1; want <= 4; want++ {
				g := h.copied()
				l := g.pick(t, k, want)
				g.wantKept(t, was, fmt.Sprintf("heap %d, class %d, %d slots", i, k, want))
				for _, at := range mixed(&by, l) {
					g.give(at)
					g.wantKept(t, was, fmt.Sprintf("heap %d, class %d, %d slots, without %v", i, k, want, at))
				}
				if got, want := audit.Parts(h.C, g.V.Vals()), audit.Parts(h.C, was); !slices.Equal(got, want) {
					t.Fatalf("heap %d, class %d: the parts are %v, not %v", i, k, got, want)
				}
			}
		}
	}
}

// P16.1, P16.3: slots of a class are taken till there is no room: those are all that were free in slabs of the class, and all that free pages have.
func TestPickOfAll(t *testing.T) {
	for i, h := range heaps(t) {
		if h.C.Pages > 200 {
			continue
		}
		was := h.V.Vals()
		for k := range 9 {
			g := h.copied()
			most := int(was[place.Free]) * class.Slots(k)
			for _, p := range g.Begins(api.InSlab) {
				if x := g.Held[p]; x.Class == k {
					most += class.Slots(k) - bits.OnesCount32(x.Taken)
				}
			}
			count := 0
			for l := g.pick(t, k, 1+i%4); len(l) > 0; l = g.pick(t, k, 1+(i+count)%4) {
				count += len(l)
			}
			if count != most {
				t.Fatalf("heap %d, class %d: %d slots, not %d", i, k, count, most)
			}
			g.wantKept(t, was, fmt.Sprintf("heap %d, all slots of the class %d", i, k))
		}
	}
}

// P16.2, P16.3: behind Give of each slot that is taken and not live there is a heap that holds the same, in which that slot is free; a slab of which it was the only one is none any more.
func TestGiveOfHeaps(t *testing.T) {
	for i, h := range heaps(t) {
		h.Name()
		was := h.V.Vals()
		by := trial.Chance(i)
		for _, at := range some(&by, h.atHand(), 200) {
			g := h.copied()
			g.give(at)
			g.wantKept(t, was, fmt.Sprintf("heap %d, slot %v", i, at))
		}
	}
}

// P16.2, P16.3: all slots that are taken and not live are given back, from the first one on, from the last one on, and in no plain order: at last just slabs with live blocks are left.
func TestGiveOfAll(t *testing.T) {
	for i, h := range heaps(t) {
		was := h.V.Vals()
		by := trial.Chance(i)
		up := h.atHand()
		if len(up) > 300 {
			continue
		}
		for _, order := range [][]slot{up, reversed(up), mixed(&by, up)} {
			g := h.copied()
			for _, at := range order {
				g.give(at)
				g.wantKept(t, was, fmt.Sprintf("heap %d, slot %v", i, at))
			}
			for _, part := range audit.Parts(g.C, g.V.Vals()) {
				if part.Kind == api.PtPocket {
					t.Fatalf("heap %d: %v is at hand", i, part)
				}
			}
		}
	}
}

// setLive makes a slot that is taken a live block, or none any more.
func (h heap) setLive(at slot, live bool) {
	x := h.Held[at.p]
	n := uint32(1)
	x.Live |= 1 << at.s
	if !live {
		x.Live &^= 1 << at.s
		n = -n
	}
	h.V.Put(place.Slots(h.C, at.p), x.Live)
	h.V.Put(place.Live, h.V.Get(place.Live)+n)
	h.Held[at.p] = x
}

// turn does one by chance, of one of these classes: slots are taken, or given back, or become live, or are not any more.
func (h heap) turn(t *testing.T, by *trial.Chance, classes ...int) {
	t.Helper()
	atHand, live := h.atHand(), h.slots(func(x trial.Piece) uint32 { return x.Live })
	switch what := by.Next(8); {
	case what < 3 || len(atHand) == 0 && len(live) == 0:
		h.pick(t, by.Pick(classes...), 1+by.Next(4))
	case what == 3 && len(atHand) > 0:
		h.setLive(some(by, atHand, 1)[0], true)
	case what == 4 && len(live) > 0:
		h.setLive(some(by, live, 1)[0], false)
	default:
		for _, at := range some(by, atHand, 1+by.Next(4)) {
			h.give(at)
		}
	}
}

// P16.3: long rows by chance, on one View: behind each one there is a heap that holds what it is to hold.
func TestLongRows(t *testing.T) {
	for i, h := range heaps(t) {
		by := trial.Chance(i)
		classes := []int{by.Next(9), by.Next(9), 8}
		for turn := range 150 {
			h.turn(t, &by, classes...)
			h.WantHeap(t, fmt.Sprintf("heap %d, turn %d", i, turn))
		}
	}
}

// P16.1, P16.2: rows by chance on heaps of which all cells are known, or not, also where other cells were put, among them a slab's Taken: what is read, put, missing and told is what the chapter's lines say.
func TestAsTheLinesSay(t *testing.T) {
	for seed := range 4000 {
		by := trial.Chance(seed)
		g := slabs(t, seed).Ground
		if by.Next(2) == 0 {
			g = trial.LayGround(t, g.C, by.Pieces(g.C.Pages)...)
		}
		v, as := by.Twins(g.V.Vals())
		for range by.Next(4) {
			cell, val := by.Next(place.Cells(g.C)), by.Link(g.C.Pages)
			if by.Next(2) == 0 {
				cell, val = place.Taken(g.C, by.Next(g.C.Pages)), by.Bits()&by.Bits()
			}
			v.Put(cell, val)
			as.Put(cell, val)
		}
		for range 1 + by.Next(6) {
			plain{as, g.C}.wantAny(t, v, &by)
		}
	}
}
