package block_test

import (
	"fmt"
	"slices"
	"testing"

	"nacre/addr"
	"nacre/api"
	"nacre/block"
	"nacre/class"
	"nacre/conf"
	"nacre/large"
	"nacre/small"
	"nacre/trial"
	"nacre/view"
)

// everywhere goes through addresses of a heap, from ahead of its first page to behind its last one: each one, if they are few, else those on each page at which a slot of any class might begin, and those beside them.
func everywhere(c api.Config) func(yield func(int64) bool) {
	return func(yield func(int64) bool) {
		first, end := conf.Page(c), conf.Page(c)+conf.Bytes(c)
		if conf.Bytes(c) <= 1<<17 {
			for a := first - 3; a < end+3; a++ {
				if !yield(a) {
					return
				}
			}
			return
		}
		for page := int64(0); page <= end; page += first {
			for k := range classes {
				for s := range class.Slots(k) + 1 {
					a := page + int64(s)*class.Size(c.Shift, k)
					if !yield(a-1) || !yield(a) || !yield(a+1) {
						return
					}
				}
			}
		}
	}
}

// begins is the address at which a block begins that was found.
func begins(c api.Config, f api.Found) int64 {
	if f.Small {
		a, _ := addr.At(c, f.Class, f.Page, f.Slot)
		return a
	}
	a, _ := addr.Of(c, f.Page, 0)
	return a
}

// wantFounds asks whether just the live blocks are found, with their sizes, and nothing is put.
func wantFounds(t *testing.T, what string, g trial.Ground) {
	t.Helper()
	v := view.Whole(g.V.Vals())
	sizes := map[int64]int64{}
	for _, b := range g.Blocks() {
		sizes[b.Addr] = b.Size
		if f, ok := block.At(v, g.C, b.Addr); !ok || f.Size != b.Size {
			t.Fatalf("%s: At(%v, %d) = %v, %t, not a block of %d", what, g.C, b.Addr, f, ok, b.Size)
		}
	}
	for a := range everywhere(g.C) {
		f, ok := block.At(v, g.C, a)
		if size, is := sizes[a]; ok != is || f.Size != size {
			t.Fatalf("%s: At(%v, %d) = %v, %t, and a block is there: %t, of %d", what, g.C, a, f, ok, is, size)
		}
		if ok && begins(g.C, f) != a {
			t.Fatalf("%s: At(%v, %d) = %v, which begins at %d", what, g.C, a, f, begins(g.C, f))
		}
	}
	if l := v.Writes(); len(l) > 0 {
		t.Fatalf("%s: there was put %v", what, l)
	}
}

// P20.2: of heaps of each sort just the live blocks are found, with their sizes.
func TestHeaps(t *testing.T) {
	for i, g := range trial.Grounds(t, rights) {
		wantFounds(t, fmt.Sprintf("heap %d", i), g)
	}
}

// row is a heap on which blocks are allocated and freed, with what a thread has at hand.
type row struct {
	trial.Ground
	mine api.Pockets
}

// alloc allocates a block of the class k, or, if there is no such class, of some pages, and asks whether it is found.
func (r *row) alloc(t *testing.T, k, pages int) {
	t.Helper()
	if k < classes {
		a, p, ok := small.Alloc(r.V, r.C, r.mine, k)
		r.mine = p
		if f, is := block.At(r.V, r.C, a); is != ok || ok && (!f.Small || f.Class != k) {
			t.Fatalf("At(%v, %d) = %v, %t, where a slot of the class %d is", r.C, a, f, is, k)
		}
		return
	}
	p, ok := large.Alloc(r.V, r.C, pages)
	want := api.Found{Page: p, Len: pages, Size: int64(pages) << r.C.Shift}
	if f, _ := block.At(r.V, r.C, int64(p+1)<<r.C.Shift); ok && f != want {
		t.Fatalf("At(%v) of the page %d is %v, not %v", r.C, p, f, want)
	}
}

// release frees the block at a, and asks whether none is found there any more.
func (r *row) release(t *testing.T, a int64) {
	t.Helper()
	f, ok := block.At(r.V, r.C, a)
	if !ok {
		t.Fatalf("At(%v, %d) finds none", r.C, a)
	}
	if f.Small {
		r.mine = small.Free(r.V, r.C, r.mine, f.Page, f.Slot)
	} else {
		large.Free(r.V, r.C, f.Page)
	}
	wantNone(t, r.V, r.C, a)
}

// P20.2: blocks that are allocated are found, and what was found is freed, and found no more, in rows by chance.
func TestRows(t *testing.T) {
	for seed := range 40 {
		by := trial.Chance(seed)
		c := api.Config{Threads: 1, Pages: 4 + by.Next(20), Shift: 10}
		r := &row{Ground: trial.LayGround(t, c, free(c.Pages))}
		for turn := range 120 {
			l := r.Blocks()
			if len(l) == 0 || by.Next(5) > 1 {
				r.alloc(t, by.Next(classes+2), 1+by.Next(4))
			} else {
				r.release(t, l[by.Next(len(l))].Addr)
			}
			if turn%20 == 0 {
				wantFounds(t, fmt.Sprintf("row %d, turn %d", seed, turn), r.Ground)
			}
		}
		for _, b := range slices.Backward(r.Blocks()) {
			r.release(t, b.Addr)
		}
		wantFounds(t, fmt.Sprintf("row %d, all freed", seed), r.Ground)
	}
}
