package large_test

import (
	"fmt"
	"slices"
	"testing"

	"nacre/api"
	"nacre/audit"
	"nacre/bin"
	"nacre/large"
	"nacre/place"
	"nacre/trial"
	"nacre/view"
)

// heap is a heap whose blocks of whole pages are allocated, freed and resized.
type heap struct{ trial.Ground }

// heaps are heaps of each sort.
func heaps(t *testing.T) []heap {
	t.Helper()
	var l []heap
	for _, g := range trial.Grounds(t, rights) {
		l = append(l, heap{g})
	}
	return l
}

// copied is a heap that holds the same.
func (h heap) copied() heap { return heap{h.Copied()} }

// block is n pages, from the page p on, as a live block.
func (h heap) block(p, n int) api.Block {
	return api.Block{Addr: int64(p+1) << h.C.Shift, Size: int64(n) << h.C.Shift}
}

// roots are the values of the roots.
func (h heap) roots() []uint32 {
	return slices.Clone(h.V.Vals()[place.Root(0) : place.Root(0)+api.Roots])
}

// wantRoots asks whether the roots are as they were.
func (h heap) wantRoots(t *testing.T, what string, was []uint32) {
	t.Helper()
	if got := h.roots(); !slices.Equal(got, was) {
		t.Fatalf("%s: the roots are %v, not %v", what, got, was)
	}
}

// alloc allocates n pages. Alloc is to tell a page just if there is room, and that one which Find tells ahead of it.
func (h heap) alloc(t *testing.T, n int) (int, bool) {
	t.Helper()
	was := h.V.Vals()
	want, _ := bin.Find(view.Whole(was), h.C, n)
	if n < 1 || n > h.Most() {
		wantAlloc(t, h.V, h.C, n, -1)
		h.WantVals(t, was)
		return 0, false
	}
	wantAlloc(t, h.V, h.C, n, want)
	h.Held[want] = used(n)
	return want, true
}

// release frees the block at the page p.
func (h heap) release(p int) {
	large.Free(h.V, h.C, p)
	delete(h.Held, p)
}

// mayResize tells whether the block at the page p can have m pages: there are to be as many, or so many more free ones just behind it.
func (h heap) mayResize(p, m int) bool {
	n := h.Held[p].Len
	return m >= 1 && m <= n+h.Room(p+n)
}

// resize resizes the block at the page p to m pages, which is to be done just if it may be.
func (h heap) resize(t *testing.T, p, m int) bool {
	t.Helper()
	was, ok := h.V.Vals(), h.mayResize(p, m)
	wantResize(t, h.V, h.C, p, m, ok)
	if !ok || m == h.Held[p].Len {
		h.WantVals(t, was)
		return ok
	}
	h.Held[p] = used(m)
	return true
}

// counts are numbers of pages up to two more than so many: each one, if they are few, else those at both ends; with those that there are never.
func (h heap) counts(most int) []int {
	l := []int{-1, 0, h.C.Pages, h.C.Pages + 1}
	for n := 1; n <= most+2; n++ {
		if n <= 12 || n >= most-2 {
			l = append(l, n)
		}
	}
	return l
}

// P19.1, P19.4: behind Alloc of each number of pages for which there is room there is a heap, with just one live block more, of so many pages; the roots stay as they are; behind Free of it there is what there was.
func TestAllocOfHeaps(t *testing.T) {
	for i, h := range heaps(t) {
		h.Name()
		was, roots := h.Blocks(), h.roots()
		for _, n := range h.counts(h.Most()) {
			g, what := h.copied(), fmt.Sprintf("heap %d, %d pages", i, n)
			p, ok := g.alloc(t, n)
			g.WantHeap(t, what)
			g.wantRoots(t, what, roots)
			if !ok {
				continue
			}
			trial.WantMore(t, what, g.Blocks(), was, h.block(p, n))
			g.release(p)
			g.WantHeap(t, what+", freed")
			g.wantRoots(t, what+", freed", roots)
			if got := g.Blocks(); !slices.Equal(got, was) {
				t.Fatalf("%s, freed: the live blocks are %v, not %v", what, got, was)
			}
		}
	}
}

// P19.2, P19.4: behind Free of each block of pages there is a heap without just that block; roots that name others stay as they are.
func TestFreeOfHeaps(t *testing.T) {
	for i, h := range heaps(t) {
		h.Name()
		was := h.Blocks()
		for _, p := range h.Begins(api.InUsed) {
			g, what := h.copied(), fmt.Sprintf("heap %d, page %d", i, p)
			gone := h.block(p, h.Held[p].Len)
			g.Unname(gone)
			roots := g.roots()
			g.release(p)
			g.WantHeap(t, what)
			g.wantRoots(t, what, roots)
			trial.WantMore(t, what, was, g.Blocks(), gone)
		}
	}
}

// P19.3, P19.4: behind Resize of each block of pages, to each number of pages, there is a heap, in which just that block's size is another one, if true was told; roots that name it stay as they are. Back to as many pages as it had is always told true.
func TestResizeOfHeaps(t *testing.T) {
	for i, h := range heaps(t) {
		h.Name()
		was, roots := h.Blocks(), h.roots()
		for _, p := range h.Begins(api.InUsed) {
			n := h.Held[p].Len
			others := slices.DeleteFunc(slices.Clone(was), func(b api.Block) bool { return b == h.block(p, n) })
			for _, m := range append(h.counts(n), h.counts(n+h.Room(p+n))...) {
				g, what := h.copied(), fmt.Sprintf("heap %d, page %d, %d pages", i, p, m)
				if !g.resize(t, p, m) {
					continue
				}
				g.WantHeap(t, what)
				g.wantRoots(t, what, roots)
				trial.WantMore(t, what, g.Blocks(), others, h.block(p, m))
				if !g.resize(t, p, n) {
					t.Fatalf("%s: they are not %d again", what, n)
				}
				g.WantHeap(t, what+", and back")
				g.wantRoots(t, what+", and back", roots)
			}
		}
	}
}

// P19.1, P19.2, P19.4: all free pages are allocated, in blocks of some pages and at last of one, till there are none; then all blocks of pages are freed, in no plain order.
func TestAllAllocatedAndFreed(t *testing.T) {
	for i, h := range heaps(t) {
		if h.C.Pages > 200 {
			continue
		}
		by := trial.Chance(i)
		pages := int(h.V.Vals()[place.Free])
		for h.Most() > 0 {
			n := 1 + by.Next(h.Most())
			if _, ok := h.alloc(t, n); !ok {
				t.Fatalf("heap %d: no %d pages, of %d", i, n, h.Most())
			}
			pages -= n
			h.WantHeap(t, fmt.Sprintf("heap %d, %d pages left", i, pages))
		}
		if free := h.V.Vals()[place.Free]; pages != 0 || free != 0 {
			t.Fatalf("heap %d: %d pages are left, and %d free", i, pages, free)
		}
		for l := h.Begins(api.InUsed); len(l) > 0; l = h.Begins(api.InUsed) {
			h.release(by.Pick(l...))
			h.WantHeap(t, fmt.Sprintf("heap %d, %d blocks left", i, len(l)-1))
		}
		for _, x := range audit.Parts(h.C, h.V.Vals()) {
			if x.Kind == api.PtLive && x.Size >= 1<<h.C.Shift {
				t.Fatalf("heap %d: %v is live", i, x)
			}
		}
	}
}

// turn does one by chance.
func (h heap) turn(t *testing.T, by *trial.Chance) {
	t.Helper()
	there := h.Begins(api.InUsed)
	what := by.Next(5)
	if len(there) == 0 || what < 2 && h.Most() > 0 {
		h.alloc(t, 1+by.Next(min(h.C.Pages, by.Pick(3, 9, 40))))
		return
	}
	p := by.Pick(there...)
	n := h.Held[p].Len
	switch what {
	case 2:
		h.release(p)
	case 3:
		h.resize(t, p, by.Next(n+1))
	default:
		h.resize(t, p, n+by.Next(h.Room(p+n)+3))
	}
}

// P19.4: long rows by chance, on one View: behind each one there is a heap that holds what it is to hold.
func TestLongRows(t *testing.T) {
	for i, h := range heaps(t) {
		by := trial.Chance(i)
		for turn := range 150 {
			h.turn(t, &by)
			h.WantHeap(t, fmt.Sprintf("heap %d, turn %d", i, turn))
		}
	}
}
