package small_test

import (
	"fmt"
	"maps"
	"slices"
	"testing"

	"nacre/addr"
	"nacre/api"
	"nacre/audit"
	"nacre/class"
	"nacre/place"
	"nacre/slab"
	"nacre/small"
	"nacre/trial"
	"nacre/view"
)

// heap is a heap whose small blocks are allocated and freed, and the pockets of its threads, which fit it.
type heap struct{ trial.Dealt }

// slot is a slot of a slab.
type slot struct{ page, s int }

// someHeap is a small heap by chance.
func someHeap(t *testing.T, by *trial.Chance) heap {
	t.Helper()
	return heap{by.SomeDealt(t)}
}

// heaps are heaps of each sort.
func heaps(t *testing.T) []heap {
	t.Helper()
	var l []heap
	for _, d := range trial.Dealts(t, rights) {
		l = append(l, heap{d})
	}
	return l
}

// copied is a heap that holds the same, with the same pockets.
func (h heap) copied() heap { return heap{h.Copied()} }

// want asks whether there is a heap that holds just what it is to hold, and the pockets fit it.
func (h heap) want(t *testing.T, what string) {
	t.Helper()
	h.WantHeap(t, what)
	h.WantFits(t, what)
}

// slotAt is the slot of the class k that begins at an address.
func (h heap) slotAt(k int, a int64) slot {
	page, off, _ := addr.Page(h.C, a)
	s, _ := addr.Slot(h.C, k, off)
	return slot{page, s}
}

// set has the bits of a slot be so.
func (h heap) set(at slot, k int, taken, live bool) {
	x, ok := h.Held[at.page]
	if !ok {
		x = of(k, 0, 0)
	}
	x.Taken &^= 1 << at.s
	x.Live &^= 1 << at.s
	if taken {
		x.Taken |= 1 << at.s
	}
	if live {
		x.Live |= 1 << at.s
	}
	h.Held[at.page] = x
	if x.Taken == 0 {
		delete(h.Held, at.page)
	}
}

// next is what Alloc of a thread is to tell, and to leave in its pocket, as far as a slab tells which slots are next; false, if there is no room. The slots are to be held then.
func (h heap) next(who, k int) (int64, []int64, bool) {
	if l := h.All[who][k]; len(l) > 0 {
		a := l[len(l)-1]
		h.set(h.slotAt(k, a), k, true, true)
		return a, l[:len(l)-1], true
	}
	page, l, ok := slab.Pick(view.Whole(h.V.Vals()), h.C, k, 4)
	if !ok {
		return 0, nil, false
	}
	var tell []int64
	for i, s := range l {
		h.set(slot{page, s}, k, true, i == 0)
		a, _ := addr.At(h.C, k, page, s)
		tell = append(tell, a)
	}
	left := slices.Clone(tell[1:])
	slices.Reverse(left)
	return tell[0], left, true
}

// alloc allocates a block of the class k for a thread, and tells its address; false, if there is no room.
func (h heap) alloc(t *testing.T, who, k int) (int64, bool) {
	t.Helper()
	p, was := h.All[who], h.V.Vals()
	want, left, ok := h.next(who, k)
	if !ok {
		wantNone(t, h.V, h.C, p, k)
		h.WantVals(t, was)
		return 0, false
	}
	a, q, ok := small.Alloc(h.V, h.C, p, k)
	if a != want || !ok {
		t.Fatalf("Alloc(%v, %v, %d) = %d, %t, not %d", h.C, p, k, a, ok, want)
	}
	wantPockets(t, "Alloc", q, with(p, k, left...))
	h.All[who] = q
	return a, true
}

// release frees a live slot for a thread, and tells the block that it was.
func (h heap) release(t *testing.T, who int, at slot) api.Block {
	t.Helper()
	p, k := h.All[who], h.Held[at.page].Class
	a, _ := addr.At(h.C, k, at.page, at.s)
	q := small.Free(h.V, h.C, p, at.page, at.s)
	if len(p[k]) < 4 {
		p[k] = append(slices.Clone(p[k]), a)
		h.set(at, k, true, false)
	} else {
		h.set(at, k, false, false)
	}
	wantPockets(t, "Free", q, p)
	h.All[who] = q
	return api.Block{Addr: a, Size: class.Size(h.C.Shift, k)}
}

// flush flushes the pocket k of a thread, and tells how many slots were given back.
func (h heap) flush(t *testing.T, who, k int) int {
	t.Helper()
	p := h.All[who]
	n, q := small.Flush(h.V, h.C, p, k)
	var stay []int64
	for _, a := range p[k] {
		at := h.slotAt(k, a)
		if at.page != h.slotAt(k, p[k][len(p[k])-1]).page {
			stay = append(stay, a)
			continue
		}
		h.set(at, k, false, false)
	}
	if n != len(p[k])-len(stay) {
		t.Fatalf("Flush(%v, %v, %d) = %d, and leaves %v", h.C, p, k, n, q)
	}
	wantPockets(t, "Flush", q, with(p, k, stay...))
	h.All[who] = q
	return n
}

// liveSlots are the slots that are live, by their pages, rising.
func (h heap) liveSlots() []slot {
	var l []slot
	for _, page := range h.Begins(api.InSlab) {
		for s := range 32 {
			if h.Held[page].Live>>s&1 == 1 {
				l = append(l, slot{page, s})
			}
		}
	}
	return l
}

// mixed are the slots in no plain order.
func mixed(by *trial.Chance, l []slot) []slot {
	l = slices.Clone(l)
	for at := range l {
		to := by.Next(at + 1)
		l[at], l[to] = l[to], l[at]
	}
	return l
}

// P18.1, P18.4: behind Alloc of each class there is a heap that the pockets fit, with one more live block, of the size that the class has; the roots stay as they are.
func TestAllocOfHeaps(t *testing.T) {
	for i, h := range heaps(t) {
		h.Name()
		was, _ := audit.State(h.C, h.V.Vals())
		for k := range classes {
			g, who := h.copied(), (i+k)%h.C.Threads
			what := fmt.Sprintf("heap %d, class %d", i, k)
			a, ok := g.alloc(t, who, k)
			g.want(t, what)
			if ok {
				trial.WantMore(t, what, g.Blocks(), was.Live, api.Block{Addr: a, Size: class.Size(h.C.Shift, k)})
			}
			if now, _ := audit.State(h.C, g.V.Vals()); now.Roots != was.Roots {
				t.Fatalf("%s: the roots are %v, not %v", what, now.Roots, was.Roots)
			}
		}
	}
}

// P18.1, P18.4: blocks of a class are allocated by one thread till there is no room: those are all slots of the class that nobody has, or that it has at hand, and all that free pages have.
func TestAllocOfAll(t *testing.T) {
	for i, h := range heaps(t) {
		if h.C.Pages > 40 {
			continue
		}
		for k := range classes {
			g, who := h.copied(), i%h.C.Threads
			most := len(g.All[who][k]) + int(g.V.Vals()[place.Free])*class.Slots(k)
			for _, x := range g.Held {
				if x.Kind == api.InSlab && x.Class == k {
					for s := range class.Slots(k) {
						most += int(^x.Taken >> s & 1)
					}
				}
			}
			was, count := g.Blocks(), 0
			for {
				if _, ok := g.alloc(t, who, k); !ok {
					break
				}
				count++
			}
			if count != most || len(g.Blocks()) != len(was)+count {
				t.Fatalf("heap %d, class %d: %d blocks, not %d", i, k, count, most)
			}
			g.want(t, fmt.Sprintf("heap %d, all of the class %d", i, k))
		}
	}
}

// P18.2, P18.4: behind Free of each live slot, by a thread, there is a heap that the pockets fit, without just that block.
func TestFreeOfHeaps(t *testing.T) {
	for i, h := range heaps(t) {
		by := trial.Chance(i)
		was, slots := h.Blocks(), mixed(&by, h.liveSlots())
		for _, at := range slots[:min(len(slots), 60)] {
			g := h.copied()
			what := fmt.Sprintf("heap %d, slot %v", i, at)
			gone := g.release(t, by.Next(h.C.Threads), at)
			g.want(t, what)
			trial.WantMore(t, what, was, g.Blocks(), gone)
		}
	}
}

// P18.3, P18.4: behind Flush of each pocket there is a heap that the pockets fit, with the same live blocks and roots; flushed again and again the pocket is empty.
func TestFlushOfHeaps(t *testing.T) {
	for i, h := range heaps(t) {
		h.Name()
		was, _ := audit.State(h.C, h.V.Vals())
		for who := range h.C.Threads {
			for k := range classes {
				g := h.copied()
				many := len(g.All[who][k])
				for many > 0 {
					n := g.flush(t, who, k)
					g.want(t, fmt.Sprintf("heap %d, thread %d, class %d", i, who, k))
					if now, _ := audit.State(h.C, g.V.Vals()); !audit.Same(now, was) {
						t.Fatalf("heap %d: the state is %v, not %v", i, now, was)
					}
					if n == 0 {
						t.Fatalf("heap %d: %d are left in %v", i, many, g.All[who][k])
					}
					many -= n
				}
				if n := g.flush(t, who, k); n != 0 || len(g.All[who][k]) > 0 {
					t.Fatalf("heap %d: %d more, %v left", i, n, g.All[who][k])
				}
			}
		}
	}
}

// P18.2 to P18.4: all small blocks are freed, in no plain order, by all threads in turn, and all pockets flushed: no slab is left.
func TestAllFreed(t *testing.T) {
	for i, h := range heaps(t) {
		by := trial.Chance(i)
		g := h.copied()
		slots := mixed(&by, g.liveSlots())
		if len(slots) > 300 {
			continue
		}
		for n, at := range slots {
			g.release(t, n%h.C.Threads, at)
			g.want(t, fmt.Sprintf("heap %d, slot %v", i, at))
		}
		for who := range h.C.Threads {
			for k := range classes {
				for g.flush(t, who, k) > 0 {
				}
			}
		}
		g.want(t, fmt.Sprintf("heap %d, flushed", i))
		if l := g.Begins(api.InSlab); len(l) > 0 {
			t.Fatalf("heap %d: %v are slabs", i, l)
		}
	}
}

// turn does one by chance for one thread, of one of these classes: it allocates, frees, or flushes.
func (h heap) turn(t *testing.T, by *trial.Chance, kinds ...int) {
	t.Helper()
	who, k := by.Next(h.C.Threads), by.Pick(kinds...)
	switch what := by.Next(8); {
	case what < 4:
		h.alloc(t, who, k)
	case what < 7:
		if l := h.liveSlots(); len(l) > 0 {
			h.release(t, who, l[by.Next(len(l))])
		}
	default:
		h.flush(t, who, k)
	}
}

// P18.4: long rows by chance, of all threads, on one View: behind each one there is a heap that holds what it is to hold, and the pockets fit it.
func TestLongRows(t *testing.T) {
	for i, h := range heaps(t) {
		by := trial.Chance(i)
		kinds := []int{by.Next(classes), by.Next(classes), 8}
		for turn := range 150 {
			h.turn(t, &by, kinds...)
			h.want(t, fmt.Sprintf("heap %d, turn %d", i, turn))
		}
	}
}

// P18.4: a block that is allocated out of a pocket and freed again leaves the heap and the pockets as they were, and so does one that is freed into a pocket and allocated again.
func TestThereAndBack(t *testing.T) {
	for i, h := range heaps(t) {
		h.Unname(h.Blocks()...)
		was := h.V.Vals()
		for who := range h.C.Threads {
			for k := range classes {
				if len(h.All[who][k]) == 0 {
					continue
				}
				g := h.copied()
				a, _ := g.alloc(t, who, k)
				g.release(t, who, g.slotAt(k, a))
				g.WantVals(t, was)
				wantPockets(t, fmt.Sprintf("heap %d, there and back", i), g.All[who], h.All[who])
			}
		}
		for _, at := range h.liveSlots() {
			k, who := h.Held[at.page].Class, i%h.C.Threads
			if len(h.All[who][k]) == 4 {
				continue
			}
			g := h.copied()
			gone := g.release(t, who, at)
			if a, _ := g.alloc(t, who, k); a != gone.Addr {
				t.Fatalf("heap %d: %d behind %v", i, a, gone)
			}
			g.WantVals(t, was)
			wantPockets(t, fmt.Sprintf("heap %d, back and there", i), g.All[who], h.All[who])
			if !maps.Equal(g.Held, h.Held) {
				t.Fatalf("heap %d: it holds %v, not %v", i, g.Held, h.Held)
			}
		}
	}
}
