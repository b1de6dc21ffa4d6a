package root_test

import (
	"slices"
	"testing"

	"nacre/api"
	"nacre/audit"
	"nacre/block"
	"nacre/large"
	"nacre/root"
	"nacre/small"
	"nacre/trial"
)

// named is a heap of which roots name blocks, what they are to have, and what a thread has at hand.
type named struct {
	trial.Ground
	has  [count]int64
	mine api.Pockets
}

// want asks whether the values are a heap whose roots have what they are to have, and whether just that is held.
func (n *named) want(t *testing.T, what string) {
	t.Helper()
	s, ok := audit.State(n.C, n.V.Vals())
	if !ok || s.Roots != n.has {
		t.Fatalf("%s: the roots of %v are %v, %t, not %v", what, n.C, s.Roots, ok, n.has)
	}
	wantAll(t, n.V, n.has[:]...)
	for _, b := range s.Live {
		wantHeld(t, n.V, b.Addr, slices.Contains(n.has[:], b.Addr))
	}
}

// set has a root name a block, or nothing.
func (n *named) set(t *testing.T, i int, a int64) {
	t.Helper()
	wantSet(t, n.V, i, a, true)
	n.has[i] = a
}

// follow has the roots that name one block name another one.
func (n *named) follow(from, to int64) {
	root.Follow(n.V, from, to)
	for i, a := range n.has {
		if a == from {
			n.has[i] = to
		}
	}
}

// alloc allocates a block by chance; false, if there is no room.
func (n *named) alloc(by *trial.Chance) (int64, bool) {
	if k := by.Next(api.Classes + 3); k < api.Classes {
		a, mine, ok := small.Alloc(n.V, n.C, n.mine, k)
		n.mine = mine
		return a, ok
	}
	p, ok := large.Alloc(n.V, n.C, 1+by.Next(3))
	return int64(p+1) << n.C.Shift, ok
}

// release frees the block at a.
func (n *named) release(a int64) {
	if f, _ := block.At(n.V, n.C, a); f.Small {
		n.mine = small.Free(n.V, n.C, n.mine, f.Page, f.Slot)
	} else {
		large.Free(n.V, n.C, f.Page)
	}
}

// somewhere is the address of one of the live blocks by chance; false, if there are none.
func (n *named) somewhere(by *trial.Chance) (int64, bool) {
	l := n.Blocks()
	if len(l) == 0 {
		return 0, false
	}
	return l[by.Next(len(l))].Addr, true
}

// turn is one by chance: a block is allocated, moved or freed, or a root is set.
func (n *named) turn(t *testing.T, by *trial.Chance) {
	t.Helper()
	if by.Next(3) == 0 {
		n.alloc(by)
		return
	}
	a, ok := n.somewhere(by)
	switch {
	case by.Next(6) == 0:
		n.set(t, by.Next(count), 0)
	case !ok:
	case by.Next(2) == 0:
		n.set(t, by.Next(count), a)
	case by.Next(2) == 0:
		if to, ok := n.alloc(by); ok {
			n.follow(a, to)
			n.release(a)
		}
	case !root.Held(n.V, a):
		n.release(a)
	}
}

// P21.3: of heaps of each sort each root is set, and then those that name a block follow another one: they have just that, and all else is as it was.
func TestHeaps(t *testing.T) {
	for seed, g := range trial.Grounds(t, trial.Rights(api.Config{Threads: 1, Pages: 8, Shift: 10})) {
		by := trial.Chance(seed)
		n := &named{Ground: g}
		for i := range count {
			if a, ok := n.somewhere(&by); ok {
				n.set(t, i, a)
			}
		}
		n.want(t, "set")
		for range 6 {
			from, _ := n.somewhere(&by)
			to, _ := n.somewhere(&by)
			n.follow(from, to)
			n.want(t, "followed")
		}
		n.WantHeap(t, "followed")
	}
}

// P21.3: blocks are allocated, moved, so that what named them follows, and freed, if no root names them, in rows by chance: each root names a live block, or nothing.
func TestRows(t *testing.T) {
	for seed := range 60 {
		by := trial.Chance(seed)
		c := api.Config{Threads: 1, Pages: 4 + by.Next(12), Shift: 10}
		n := &named{Ground: trial.LayGround(t, c, trial.Free(c.Pages))}
		for range 100 {
			n.turn(t, &by)
			n.want(t, "behind a turn")
		}
	}
}
