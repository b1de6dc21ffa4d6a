package span_test

import (
	"fmt"
	"slices"
	"testing"

	"nacre/api"
	"nacre/bin"
	"nacre/link"
	"nacre/place"
	"nacre/span"
	"nacre/trial"
	"nacre/view"
)

// heap is a heap whose spans are taken, and given back.
type heap struct{ trial.Ground }

// heaps are heaps of each sort.
func heaps(t *testing.T) []heap {
	t.Helper()
	var l []heap
	for _, g := range trial.Grounds(t, rights) {
		l = append(l, heap{g})
	}
	return l
}

// copied is a heap that holds the same.
func (h heap) copied() heap { return heap{h.Copied()} }

// live counts so many more live blocks.
func (h heap) live(n int) { h.V.Put(place.Live, h.V.Get(place.Live)+uint32(n)) }

// take takes n pages, and counts a live block. Take is to tell a page just if there is room, and that one which Find tells ahead of it.
func (h heap) take(t *testing.T, n int) (int, bool) {
	t.Helper()
	ahead := h.V.Vals()
	want, _ := bin.Find(view.Whole(ahead), h.C, n)
	p, ok := span.Take(h.V, h.C, n)
	if ok != (n >= 1 && n <= h.Most()) || p != want {
		t.Fatalf("Take(%v, %d) = %d, %t; the longest free span has %d pages, and Find tells %d", h.C, n, p, ok, h.Most(), want)
	}
	if !ok {
		h.WantVals(t, ahead)
		return 0, false
	}
	h.live(1)
	h.Held[p] = used(n)
	return p, true
}

// release releases the span at the page p, which is not free, and counts its live blocks off. A slab is one that is in no rack, and has no slots, ahead of it.
func (h heap) release(p int) {
	x := h.Held[p]
	switch x.Kind {
	case api.InUsed:
		h.live(-1)
	case api.InSlab:
		if x.List() >= 0 {
			link.Pull(h.V, h.C, x.List(), p)
		}
		for slots := x.Live; slots != 0; slots &= slots - 1 {
			h.live(-1)
		}
		h.V.Put(place.Taken(h.C, p), 0)
		h.V.Put(place.Slots(h.C, p), 0)
	}
	span.Release(h.V, h.C, p, x.Len)
	delete(h.Held, p)
}

// shrink leaves the first m pages of the used span at the page p.
func (h heap) shrink(p, m int) {
	span.Shrink(h.V, h.C, p, h.Held[p].Len, m)
	h.Held[p] = used(m)
}

// grow has the used span at the page p grow to m pages, which is to be done just if there is room behind it.
func (h heap) grow(t *testing.T, p, m int) bool {
	t.Helper()
	n := h.Held[p].Len
	room := h.Room(p + n)
	ahead := h.V.Vals()
	wantGrow(t, h.V, h.C, p, n, m, m-n <= room)
	if m-n > room {
		h.WantVals(t, ahead)
		return false
	}
	h.Held[p] = used(m)
	return true
}

// counts are numbers of pages up to one more than so many: each one, if they are few, else those at both ends.
func counts(most int) []int {
	var l []int
	for n := 1; n <= most+1; n++ {
		if n <= 12 || n >= most-3 {
			l = append(l, n)
		}
	}
	return l
}

// P15.1, P15.5: Take of each number of pages tells a page just if a free span has so many; behind it, with one live block more, there is a heap that has that one more; behind Release of it the spans are those that were.
func TestTakeOfHeaps(t *testing.T) {
	for i, h := range heaps(t) {
		for _, n := range append(counts(h.Most()), h.C.Pages) {
			g := h.copied()
			p, ok := g.take(t, n)
			g.WantHeap(t, fmt.Sprintf("heap %d, %d pages", i, n))
			if ok {
				g.release(p)
				g.WantHeap(t, fmt.Sprintf("heap %d, without its %d pages", i, n))
			}
		}
	}
}

// P15.2, P15.5: behind Release of each span that is not free, with its live blocks counted off, there is a heap without it, in which it is one free span with what was free beside it.
func TestReleaseOfHeaps(t *testing.T) {
	for i, h := range heaps(t) {
		for _, p := range h.Begins(api.InUsed, api.InSlab) {
			g := h.copied()
			g.release(p)
			g.WantHeap(t, fmt.Sprintf("heap %d, page %d", i, p))
		}
	}
}

// P15.2, P15.5: all spans of a heap are released, from the first one on, from the last one on, and in no plain order: at last all pages are one free span, and can be taken.
func TestReleaseOfAll(t *testing.T) {
	for i, h := range heaps(t) {
		up := h.Begins(api.InUsed, api.InSlab)
		down := slices.Clone(up)
		slices.Reverse(down)
		mixed := slices.Clone(up)
		by := trial.Chance(i)
		for at := range mixed {
			to := by.Next(at + 1)
			mixed[at], mixed[to] = mixed[to], mixed[at]
		}
		for _, order := range [][]int{up, down, mixed} {
			g := h.copied()
			for _, p := range order {
				g.release(p)
				g.WantHeap(t, fmt.Sprintf("heap %d, page %d", i, p))
			}
			if p, ok := g.take(t, g.C.Pages); p != 0 || !ok {
				t.Fatalf("heap %d: Take of all pages = %d, %t", i, p, ok)
			}
			g.WantHeap(t, fmt.Sprintf("heap %d, taken as a whole", i))
		}
	}
}

// P15.3, P15.5: behind Shrink of each used span, to each number of pages, there is a heap in which it has so many; behind Grow it has as many as it had.
func TestShrinkOfHeaps(t *testing.T) {
	for i, h := range heaps(t) {
		for _, p := range h.Begins(api.InUsed) {
			n := h.Held[p].Len
			for _, m := range counts(n - 1) {
				if m >= n {
					continue
				}
				g := h.copied()
				g.shrink(p, m)
				g.WantHeap(t, fmt.Sprintf("heap %d, page %d, %d pages", i, p, m))
				if !g.grow(t, p, n) {
					t.Fatalf("heap %d, page %d: %d pages do not grow to %d", i, p, m, n)
				}
				g.WantHeap(t, fmt.Sprintf("heap %d, page %d, %d pages again", i, p, n))
			}
		}
	}
}

// P15.4, P15.5: Grow of each used span, to each number of pages, tells true just if there is room behind it; then there is a heap in which it has so many, and behind Shrink it has as many as it had; else nothing is another one.
func TestGrowOfHeaps(t *testing.T) {
	for i, h := range heaps(t) {
		for _, p := range h.Begins(api.InUsed) {
			n := h.Held[p].Len
			for _, more := range append(counts(h.Room(p+n)), h.C.Pages-n) {
				if more < 1 {
					continue
				}
				g := h.copied()
				grown := g.grow(t, p, n+more)
				g.WantHeap(t, fmt.Sprintf("heap %d, page %d, %d pages", i, p, n+more))
				if grown {
					g.shrink(p, n)
					g.WantHeap(t, fmt.Sprintf("heap %d, page %d, %d pages again", i, p, n))
				}
			}
		}
	}
}

// turn does one by chance.
func (h heap) turn(t *testing.T, by *trial.Chance) {
	t.Helper()
	spans, all := h.Begins(api.InUsed), h.Begins(api.InUsed, api.InSlab)
	what := by.Next(5)
	switch {
	case len(all) == 0 || what < 2 && h.Most() > 0:
		h.take(t, 1+by.Next(min(h.C.Pages, by.Pick(3, 9, 40))))
	case len(spans) == 0 || what < 3:
		h.release(by.Pick(all...))
	default:
		p := by.Pick(spans...)
		if n := h.Held[p].Len; what == 3 && n > 1 {
			h.shrink(p, 1+by.Next(n-1))
		} else {
			h.grow(t, p, n+1+by.Next(h.Room(p+n)+2))
		}
	}
}

// P15.5: long rows by chance, on one View: behind each one there is a heap.
func TestLongRows(t *testing.T) {
	for i, h := range heaps(t) {
		by := trial.Chance(i)
		for turn := range 150 {
			h.turn(t, &by)
			h.WantHeap(t, fmt.Sprintf("heap %d, turn %d", i, turn))
		}
	}
}

// P15.1 to P15.4: rows by chance on heaps of which all cells are known, or not: what is read, put, missing and told is what the chapter's lines say, first of a span that is there, then of any pages, and also where another cell was put.
func TestAsTheLinesSay(t *testing.T) {
	for seed := range 4000 {
		by := trial.Chance(seed)
		c := api.Config{Threads: 1 + by.Next(3), Pages: 4 + by.Next(20), Shift: 10}
		h := trial.LayGround(t, c, by.Pieces(c.Pages)...)
		v, as := by.Twins(h.V.Vals())
		if by.Next(2) == 0 {
			cell, val := by.Next(place.Cells(c)), by.Link(c.Pages)
			v.Put(cell, val)
			as.Put(cell, val)
		}
		there := h.Begins(api.InUsed, api.InSlab)
		for turn := range 1 + by.Next(6) {
			p := by.Next(c.Pages)
			n := 1 + by.Next(c.Pages-p)
			if turn == 0 && len(there) > 0 {
				p = by.Pick(there...)
				n = h.Held[p].Len
			}
			plain{as, c}.wantAny(t, v, &by, p, n)
		}
	}
}
