package bin_test

import (
	"fmt"
	"slices"
	"testing"

	"nacre/api"
	"nacre/audit"
	"nacre/bin"
	"nacre/place"
	"nacre/trial"
	"nacre/view"
)

// heap is a heap that is worked on by a View: where its free spans begin, and how many pages they have, and of each bin the first pages of its spans, in their order.
type heap struct {
	c     api.Config
	v     *view.View
	spans map[int]int
	bins  map[int][]int
}

// heapOf lays a heap of such pieces, from the page 0 on; behind them a used span has all pages that are left.
func heapOf(t *testing.T, c api.Config, pieces ...trial.Piece) *heap {
	t.Helper()
	h := &heap{c, nil, map[int]int{}, map[int][]int{}}
	at := 0
	for _, x := range pieces {
		if x.Kind == api.InFree {
			h.spans[at] = x.Len
		}
		at += x.Len
	}
	if at < c.Pages {
		pieces = append(pieces, trial.Used(c.Pages-at))
	}
	laid := trial.Lay(c, pieces...)
	for k := range 11 {
		h.bins[k] = laid.List(place.Bin(k))
	}
	h.v = view.Whole(laid.Vals)
	h.wantHeap(t, "laid")
	return h
}

// drop drops the free span at p, and asks for how many pages it has.
func (h *heap) drop(t *testing.T, p int) {
	t.Helper()
	wantDrop(t, h.v, h.c, p, h.spans[p])
	k := of(h.spans[p])
	h.bins[k] = slices.DeleteFunc(slices.Clone(h.bins[k]), func(q int) bool { return q == p })
}

// add adds the free span at p.
func (h *heap) add(p int) {
	bin.Add(h.v, h.c, p, h.spans[p])
	k := of(h.spans[p])
	h.bins[k] = slices.Insert(h.bins[k], 0, p)
}

// wantHeap asks whether the values are a heap.
func (h *heap) wantHeap(t *testing.T, what string) {
	t.Helper()
	if n, ok := audit.Check(h.c, h.v.Vals()); !ok {
		t.Fatalf("%s: of %v the rule %d does not hold", what, h.c, n)
	}
}

// wantBins asks whether the bins have their spans, in their order, both ways, and no other cell but the links of free spans is another one than it was.
func (h *heap) wantBins(t *testing.T, what string, was []uint32) {
	t.Helper()
	want := trial.Heap{Config: h.c, Vals: slices.Clone(was)}
	for p := range h.spans {
		want.Vals[place.Next(h.c, p)], want.Vals[place.Prev(h.c, p)] = 0, 0
	}
	for k := range 11 {
		want.Relink(place.Bin(k), h.bins[k]...)
	}
	if got := h.v.Vals(); !slices.Equal(got, want.Vals) {
		t.Fatalf("%s: the values of %v are %v, not %v", what, h.c, got, want.Vals)
	}
}

// wantSame asks whether the values are a heap that holds what that of other values does.
func (h *heap) wantSame(t *testing.T, what string, was []uint32) {
	t.Helper()
	h.wantHeap(t, what)
	vals := h.v.Vals()
	before, _ := audit.State(h.c, was)
	state, ok := audit.State(h.c, vals)
	if !ok || !audit.Same(before, state) {
		t.Fatalf("%s: the state of %v is %v, not %v", what, h.c, state, before)
	}
	if got, want := audit.Parts(h.c, vals), audit.Parts(h.c, was); !slices.Equal(got, want) {
		t.Fatalf("%s: the parts of %v are %v, not %v", what, h.c, got, want)
	}
}

// best is which page Find is to tell; -1, if it is none.
func (h *heap) best(n int) int {
	if n < 1 || n > h.c.Pages {
		return -1
	}
	for _, p := range h.bins[of(n)] {
		if h.spans[p] >= n {
			return p
		}
	}
	for k := of(n) + 1; k < 11; k++ {
		if len(h.bins[k]) > 0 {
			return h.bins[k][0]
		}
	}
	return -1
}

// wantFinds asks whether Find tells a span that is in a bin, and has at least n pages, just if there is one, and puts nothing.
func (h *heap) wantFinds(t *testing.T, what string, n int) {
	t.Helper()
	longest := 0
	for _, pages := range h.bins {
		for _, p := range pages {
			longest = max(longest, h.spans[p])
		}
	}
	v := view.Whole(h.v.Vals())
	p, ok := bin.Find(v, h.c, n)
	if ok != (n >= 1 && n <= longest) || ok && h.spans[p] < n || !ok && p != 0 {
		t.Fatalf("%s: of %v Find of %d = %d, %t; the longest span has %d pages, that one %d", what, h.c, n, p, ok, longest, h.spans[p])
	}
	wantFind(t, v, h.c, n, h.best(n))
	if got := v.Writes(); len(got) != 0 {
		t.Fatalf("%s: of %v Find of %d puts %v", what, h.c, n, got)
	}
}

// counts are the numbers of pages that are looked for in a heap: all up to 70, then those beside powers of two, and beside all pages.
func (h *heap) counts() []int {
	l := []int{-1, 0, h.c.Pages - 1, h.c.Pages, h.c.Pages + 1}
	for n := 1; n <= h.c.Pages && n <= 70; n++ {
		l = append(l, n)
	}
	for n := 128; n <= h.c.Pages; n *= 2 {
		l = append(l, n-1, n, n+1)
	}
	return l
}

// manyFree is pieces of so many pages, of which every other one is free, long or short.
func manyFree(by *trial.Chance, pages int) []trial.Piece {
	var l []trial.Piece
	for pages > 0 {
		x := trial.Used(1 + by.Next(min(pages, 5)))
		if len(l) > 0 && l[len(l)-1].Kind != api.InFree || by.Next(2) == 0 && len(l) == 0 {
			x = trial.Free(1 + by.Next(min(pages, by.Pick(2, 9, 40))))
		} else if by.Next(3) == 0 {
			x = trial.Slab(4, uint32(by.Pick(1, 3, 128, 255)), 0)
		}
		l = append(l, x)
		pages -= x.Len
	}
	return l
}

// heaps are heaps: of one free span, of none, with spans of many lengths in one bin, and by chance.
func heaps(t *testing.T) []*heap {
	t.Helper()
	free, used, slab := trial.Free, trial.Used, trial.Slab
	var l []*heap
	for _, c := range rights {
		l = append(l, heapOf(t, c, free(c.Pages)), heapOf(t, c, used(c.Pages)), heapOf(t, c, free(1), used(1), free(c.Pages-2)))
	}
	c := api.Config{Threads: 2, Pages: 60, Shift: 10}
	l = append(l,
		heapOf(t, c, free(4), used(1), free(7), slab(0, 1, 1), free(5), used(2), free(6), slab(8, 3, 2), free(4)),
		heapOf(t, c, used(1), free(1), slab(4, 3, 0), free(3), used(1), free(9), used(1), free(2), used(2), free(3), used(3), free(33)),
		heapOf(t, c, slab(1, 1, 0), free(15), used(1), free(16), slab(4, 255, 255), free(17)),
	)
	for seed := range 30 {
		by := trial.Chance(seed)
		c := api.Config{Threads: 1 + by.Next(16), Pages: 4 + by.Next(by.Pick(10, 60, 300)), Shift: 10 + by.Next(11)}
		l = append(l, heapOf(t, c, by.Pieces(c.Pages)...), heapOf(t, c, manyFree(&by, c.Pages)...))
	}
	return l
}

// P14.3, P14.4: of heaps Find tells a free span of at least n pages, just if there is one: the first one in the bin of n that is long enough, else the first one of the next bin that is not empty.
func TestFindOfHeaps(t *testing.T) {
	for i, h := range heaps(t) {
		for _, n := range h.counts() {
			h.wantFinds(t, fmt.Sprint("heap ", i), n)
		}
	}
}

// P14.4: a span that is dropped is in no bin, and Find does not tell it; when it is added again, there is a heap that holds the same.
func TestDropAndAddOfHeaps(t *testing.T) {
	for i, h := range heaps(t) {
		what := fmt.Sprint("heap ", i)
		was := h.v.Vals()
		for p := range h.c.Pages {
			if h.spans[p] == 0 {
				continue
			}
			h.drop(t, p)
			h.wantBins(t, what, was)
			for _, n := range []int{1, h.spans[p], h.spans[p] + 1, h.spans[p] / 2, h.c.Pages} {
				h.wantFinds(t, what, n)
			}
			h.add(p)
			h.wantBins(t, what, was)
			h.wantSame(t, what, was)
		}
	}
}

// P14.2, P14.4: Drop at the other pages of a heap tells 0, and turns nothing.
func TestDropOfHeapsWhereNoFreeSpanBegins(t *testing.T) {
	for _, h := range heaps(t) {
		was := h.v.Vals()
		for p := range h.c.Pages {
			if h.spans[p] == 0 {
				wantDrop(t, h.v, h.c, p, 0)
			}
		}
		if got := h.v.Writes(); len(got) != 0 {
			t.Fatalf("of %v Drop puts %v", h.c, got)
		}
		h.wantSame(t, "dropped", was)
	}
}

// P14.4: spans that are dropped, and added again, in rows by chance: the bins are those of the spans that were not dropped; when all are added again, there is a heap that holds the same.
func TestLongRows(t *testing.T) {
	for i, h := range heaps(t) {
		by := trial.Chance(i)
		was := h.v.Vals()
		var in, out []int
		for p := range h.c.Pages {
			if h.spans[p] != 0 {
				in = append(in, p)
			}
		}
		for turn := range 120 {
			what := fmt.Sprintf("heap %d, turn %d", i, turn)
			from, to := &in, &out
			if len(in) == 0 || turn > 60 && len(out) > 0 && by.Next(4) > 0 {
				from, to = &out, &in
			}
			if len(*from) == 0 {
				break
			}
			at := by.Next(len(*from))
			p := (*from)[at]
			*from, *to = slices.Delete(*from, at, at+1), append(*to, p)
			if from == &in {
				h.drop(t, p)
			} else {
				h.add(p)
			}
			h.wantBins(t, what, was)
			h.wantFinds(t, what, 1+by.Next(min(h.c.Pages, 20)))
		}
		for _, p := range out {
			h.add(p)
		}
		h.wantBins(t, "at last", was)
		h.wantSame(t, "at last", was)
	}
}
