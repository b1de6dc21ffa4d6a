package span_test

import (
	"fmt"
	"slices"
	"testing"

	"nacre/api"
	"nacre/audit"
	"nacre/bin"
	"nacre/link"
	"nacre/place"
	"nacre/span"
	"nacre/trial"
	"nacre/view"
)

// heap is a heap that is worked on by a View: of each page at which a span begins that is not free, that span. All else is free: as much as there is side by side is one span.
type heap struct {
	c    api.Config
	v    *view.View
	held map[int]trial.Piece
}

// heapOf lays a heap of such pieces, from the page 0 on; what is left behind them is used.
func heapOf(t *testing.T, c api.Config, pieces ...trial.Piece) *heap {
	t.Helper()
	h := &heap{c: c, held: map[int]trial.Piece{}}
	at := 0
	for _, x := range pieces {
		if x.Kind != api.InFree {
			h.held[at] = x
		}
		at += x.Len
	}
	if at < c.Pages {
		h.held[at] = used(c.Pages - at)
	}
	h.v = view.Whole(trial.Lay(c, h.pieces()...).Vals)
	h.wantHeap(t, "laid")
	return h
}

// room is how many pages are free from the page p on, side by side.
func (h *heap) room(p int) int {
	n := 0
	for ; p+n < h.c.Pages; n++ {
		if _, ok := h.held[p+n]; ok {
			break
		}
	}
	return n
}

// pieces are the spans, one behind the other.
func (h *heap) pieces() []trial.Piece {
	var l []trial.Piece
	for p := 0; p < h.c.Pages; p += l[len(l)-1].Len {
		x, ok := h.held[p]
		if !ok {
			x = free(h.room(p))
		}
		l = append(l, x)
	}
	return l
}

// most is how many pages the longest free span has.
func (h *heap) most() int {
	n := 0
	for _, x := range h.pieces() {
		if x.Kind == api.InFree {
			n = max(n, x.Len)
		}
	}
	return n
}

// live counts so many more live blocks.
func (h *heap) live(n int) { h.v.Put(place.Live, h.v.Get(place.Live)+uint32(n)) }

// wantHeap asks whether the values are a heap that holds just the spans, and the slots of the slabs, that it is to hold.
func (h *heap) wantHeap(t *testing.T, what string) {
	t.Helper()
	vals, want := h.v.Vals(), trial.Lay(h.c, h.pieces()...).Vals
	if n, ok := audit.Check(h.c, vals); !ok {
		t.Fatalf("%s: of %v the rule %d does not hold", what, h.c, n)
	}
	if got, want := audit.Parts(h.c, vals), audit.Parts(h.c, want); !slices.Equal(got, want) {
		t.Fatalf("%s: the parts of %v are %v, not %v", what, h.c, got, want)
	}
	if got, want := audit.Live(h.c, vals), audit.Live(h.c, want); !slices.Equal(got, want) {
		t.Fatalf("%s: the live blocks of %v are %v, not %v", what, h.c, got, want)
	}
}

// take takes n pages, and counts a live block. Take is to tell a page just if there is room, and that one which Find tells ahead of it.
func (h *heap) take(t *testing.T, n int) (int, bool) {
	t.Helper()
	ahead := h.v.Vals()
	want, _ := bin.Find(view.Whole(ahead), h.c, n)
	p, ok := span.Take(h.v, h.c, n)
	if ok != (n >= 1 && n <= h.most()) || p != want {
		t.Fatalf("Take(%v, %d) = %d, %t; the longest free span has %d pages, and Find tells %d", h.c, n, p, ok, h.most(), want)
	}
	if !ok {
		h.wantSame(t, ahead)
		return 0, false
	}
	h.live(1)
	h.held[p] = used(n)
	return p, true
}

// release releases the span at the page p, which is not free, and counts its live blocks off. A slab is one that is in no rack, and has no slots, ahead of it.
func (h *heap) release(p int) {
	x := h.held[p]
	switch x.Kind {
	case api.InUsed:
		h.live(-1)
	case api.InSlab:
		if x.List() >= 0 {
			link.Pull(h.v, h.c, x.List(), p)
		}
		for slots := x.Live; slots != 0; slots &= slots - 1 {
			h.live(-1)
		}
		h.v.Put(place.Taken(h.c, p), 0)
		h.v.Put(place.Slots(h.c, p), 0)
	}
	span.Release(h.v, h.c, p, x.Len)
	delete(h.held, p)
}

// shrink leaves the first m pages of the used span at the page p.
func (h *heap) shrink(p, m int) {
	span.Shrink(h.v, h.c, p, h.held[p].Len, m)
	h.held[p] = used(m)
}

// grow has the used span at the page p grow to m pages, which is to be done just if there is room behind it.
func (h *heap) grow(t *testing.T, p, m int) bool {
	t.Helper()
	n := h.held[p].Len
	room := h.room(p + n)
	ahead := h.v.Vals()
	wantGrow(t, h.v, h.c, p, n, m, m-n <= room)
	if m-n > room {
		h.wantSame(t, ahead)
		return false
	}
	h.held[p] = used(m)
	return true
}

// wantSame asks whether the values are those that they were.
func (h *heap) wantSame(t *testing.T, was []uint32) {
	t.Helper()
	if got := h.v.Vals(); !slices.Equal(got, was) {
		t.Fatalf("the values of %v are %v, not %v", h.c, got, was)
	}
}

// copied is a heap that holds the same.
func (h *heap) copied() *heap {
	held := map[int]trial.Piece{}
	for p, x := range h.held {
		held[p] = x
	}
	return &heap{h.c, view.Whole(h.v.Vals()), held}
}

// begins are the pages at which spans of a kind begin, rising.
func (h *heap) begins(kinds ...int) []int {
	var l []int
	for p := range h.c.Pages {
		if x, ok := h.held[p]; ok && slices.Contains(kinds, x.Kind) {
			l = append(l, p)
		}
	}
	return l
}

// counts are numbers of pages up to one more than so many: each one, if they are few, else those at both ends.
func counts(most int) []int {
	var l []int
	for n := 1; n <= most+1; n++ {
		if n <= 12 || n >= most-3 {
			l = append(l, n)
		}
	}
	return l
}

// heaps are heaps: of one free span, of none, some by hand, and by chance.
func heaps(t *testing.T) []*heap {
	t.Helper()
	var l []*heap
	for _, c := range rights {
		l = append(l, heapOf(t, c, free(c.Pages)), heapOf(t, c, used(c.Pages)), heapOf(t, c, free(1), used(1), free(c.Pages-2)))
	}
	c := api.Config{Threads: 2, Pages: 60, Shift: 10}
	l = append(l,
		heapOf(t, c, free(4), used(1), free(7), slab(0, 1, 1), free(5), used(2), free(6), slab(8, 3, 2), free(4)),
		heapOf(t, c, used(4), used(3), free(3), used(1), used(6), free(9), slab(4, 255, 7), used(9), slab(1, 2, 2), free(2), used(2), used(3)),
	)
	for seed := range 40 {
		by := trial.Chance(seed)
		c := api.Config{Threads: 1 + by.Next(16), Pages: 4 + by.Next(by.Pick(6, 30, 120)), Shift: 10 + by.Next(11)}
		l = append(l, heapOf(t, c, by.Pieces(c.Pages)...))
	}
	return l
}

// P15.1, P15.5: Take of each number of pages tells a page just if a free span has so many; behind it, with one live block more, there is a heap that has that one more; behind Release of it the spans are those that were.
func TestTakeOfHeaps(t *testing.T) {
	for i, h := range heaps(t) {
		for _, n := range append(counts(h.most()), h.c.Pages) {
			g := h.copied()
			p, ok := g.take(t, n)
			g.wantHeap(t, fmt.Sprintf("heap %d, %d pages", i, n))
			if ok {
				g.release(p)
				g.wantHeap(t, fmt.Sprintf("heap %d, without its %d pages", i, n))
			}
		}
	}
}

// P15.2, P15.5: behind Release of each span that is not free, with its live blocks counted off, there is a heap without it, in which it is one free span with what was free beside it.
func TestReleaseOfHeaps(t *testing.T) {
	for i, h := range heaps(t) {
		for _, p := range h.begins(api.InUsed, api.InSlab) {
			g := h.copied()
			g.release(p)
			g.wantHeap(t, fmt.Sprintf("heap %d, page %d", i, p))
		}
	}
}

// P15.2, P15.5: all spans of a heap are released, from the first one on, from the last one on, and in no plain order: at last all pages are one free span, and can be taken.
func TestReleaseOfAll(t *testing.T) {
	for i, h := range heaps(t) {
		up := h.begins(api.InUsed, api.InSlab)
		down := slices.Clone(up)
		slices.Reverse(down)
		mixed := slices.Clone(up)
		by := trial.Chance(i)
		for at := range mixed {
			to := by.Next(at + 1)
			mixed[at], mixed[to] = mixed[to], mixed[at]
		}
		for _, order := range [][]int{up, down, mixed} {
			g := h.copied()
			for _, p := range order {
				g.release(p)
				g.wantHeap(t, fmt.Sprintf("heap %d, page %d", i, p))
			}
			if p, ok := g.take(t, g.c.Pages); p != 0 || !ok {
				t.Fatalf("heap %d: Take of all pages = %d, %t", i, p, ok)
			}
			g.wantHeap(t, fmt.Sprintf("heap %d, taken as a whole", i))
		}
	}
}

// P15.3, P15.5: behind Shrink of each used span, to each number of pages, there is a heap in which it has so many; behind Grow it has as many as it had.
func TestShrinkOfHeaps(t *testing.T) {
	for i, h := range heaps(t) {
		for _, p := range h.begins(api.InUsed) {
			n := h.held[p].Len
			for _, m := range counts(n - 1) {
				if m >= n {
					continue
				}
				g := h.copied()
				g.shrink(p, m)
				g.wantHeap(t, fmt.Sprintf("heap %d, page %d, %d pages", i, p, m))
				if !g.grow(t, p, n) {
					t.Fatalf("heap %d, page %d: %d pages do not grow to %d", i, p, m, n)
				}
				g.wantHeap(t, fmt.Sprintf("heap %d, page %d, %d pages again", i, p, n))
			}
		}
	}
}

// P15.4, P15.5: Grow of each used span, to each number of pages, tells true just if there is room behind it; then there is a heap in which it has so many, and behind Shrink it has as many as it had; else nothing is another one.
func TestGrowOfHeaps(t *testing.T) {
	for i, h := range heaps(t) {
		for _, p := range h.begins(api.InUsed) {
			n := h.held[p].Len
			for _, more := range append(counts(h.room(p+n)), h.c.Pages-n) {
				if more < 1 {
					continue
				}
				g := h.copied()
				grown := g.grow(t, p, n+more)
				g.wantHeap(t, fmt.Sprintf("heap %d, page %d, %d pages", i, p, n+more))
				if grown {
					g.shrink(p, n)
					g.wantHeap(t, fmt.Sprintf("heap %d, page %d, %d pages again", i, p, n))
				}
			}
		}
	}
}

// turn does one by chance.
func (h *heap) turn(t *testing.T, by *trial.Chance) {
	t.Helper()
	spans, all := h.begins(api.InUsed), h.begins(api.InUsed, api.InSlab)
	what := by.Next(5)
	switch {
	case len(all) == 0 || what < 2 && h.most() > 0:
		h.take(t, 1+by.Next(min(h.c.Pages, by.Pick(3, 9, 40))))
	case len(spans) == 0 || what < 3:
		h.release(by.Pick(all...))
	default:
		p := by.Pick(spans...)
		if n := h.held[p].Len; what == 3 && n > 1 {
			h.shrink(p, 1+by.Next(n-1))
		} else {
			h.grow(t, p, n+1+by.Next(h.room(p+n)+2))
		}
	}
}

// P15.5: long rows by chance, on one View: behind each one there is a heap.
func TestLongRows(t *testing.T) {
	for i, h := range heaps(t) {
		by := trial.Chance(i)
		for turn := range 150 {
			h.turn(t, &by)
			h.wantHeap(t, fmt.Sprintf("heap %d, turn %d", i, turn))
		}
	}
}

// P15.1 to P15.4: rows by chance on heaps of which all cells are known, or not: what is read, put, missing and told is what the chapter's lines say, first of a span that is there, then of any pages, and also where another cell was put.
func TestAsTheLinesSay(t *testing.T) {
	for seed := range 4000 {
		by := trial.Chance(seed)
		c := api.Config{Threads: 1 + by.Next(3), Pages: 4 + by.Next(20), Shift: 10}
		h := heapOf(t, c, by.Pieces(c.Pages)...)
		v, as := by.Twins(h.v.Vals())
		if by.Next(2) == 0 {
			cell, val := by.Next(place.Cells(c)), by.Link(c.Pages)
			v.Put(cell, val)
			as.Put(cell, val)
		}
		there := h.begins(api.InUsed, api.InSlab)
		for turn := range 1 + by.Next(6) {
			p := by.Next(c.Pages)
			n := 1 + by.Next(c.Pages-p)
			if turn == 0 && len(there) > 0 {
				p = by.Pick(there...)
				n = h.held[p].Len
			}
			plain{as, c}.wantAny(t, v, &by, p, n)
		}
	}
}
