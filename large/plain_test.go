package large_test

import (
	"testing"

	"nacre/api"
	"nacre/info"
	"nacre/large"
	"nacre/place"
	"nacre/span"
	"nacre/trial"
	"nacre/view"
)

// plain is a View on which the chapter's lines are done as they stand there.
type plain struct {
	*view.View
	c api.Config
}

// length is the Len of the info of a page.
func (p plain) length(page int) int {
	i, _ := info.Get(p.Get(place.Info(p.c, page)))
	return i.Len
}

// alloc is what the chapter says of Alloc.
func (p plain) alloc(n int) (int, bool) {
	page, ok := span.Take(p.View, p.c, n)
	if !ok {
		return 0, false
	}
	p.Put(place.Live, p.Get(place.Live)+1)
	return page, true
}

// free is what the chapter says of Free.
func (p plain) free(page int) {
	n := p.length(page)
	span.Release(p.View, p.c, page, n)
	p.Put(place.Live, p.Get(place.Live)-1)
}

// resize is what the chapter says of Resize.
func (p plain) resize(page, m int) bool {
	n := p.length(page)
	if m == n {
		return true
	}
	if m >= 1 && m < n {
		span.Shrink(p.View, p.c, page, n, m)
		return true
	}
	if m > n && m <= p.c.Pages {
		return span.Grow(p.View, p.c, page, n, m)
	}
	return false
}

// wantAlloc allocates on both, and asks whether the same is done and told.
func (p plain) wantAlloc(t *testing.T, v *view.View, n int) {
	t.Helper()
	page, ok := large.Alloc(v, p.c, n)
	if want, is := p.alloc(n); page != want || ok != is {
		t.Fatalf("Alloc(%v, %d) = %d, %t, not %d, %t", p.c, n, page, ok, want, is)
	}
	trial.WantSame(t, "Alloc", v, p.View)
}

// wantFree frees on both, and asks whether the same is done.
func (p plain) wantFree(t *testing.T, v *view.View, page int) {
	t.Helper()
	large.Free(v, p.c, page)
	p.free(page)
	trial.WantSame(t, "Free", v, p.View)
}

// wantResize resizes on both, and asks whether the same is done and told.
func (p plain) wantResize(t *testing.T, v *view.View, page, m int) {
	t.Helper()
	if got, want := large.Resize(v, p.c, page, m), p.resize(page, m); got != want {
		t.Fatalf("Resize(%v, %d, %d) = %t, not %t", p.c, page, m, got, want)
	}
	trial.WantSame(t, "Resize", v, p.View)
}

// P19.1 to P19.3: rows by chance on heaps of which all cells are known, or not: what is read, put, missing and told is what the chapter's lines say, first of a block that is there, then of any page.
func TestAsTheLinesSay(t *testing.T) {
	for seed := range 4000 {
		by := trial.Chance(seed)
		c := api.Config{Threads: 1 + by.Next(3), Pages: 4 + by.Next(20), Shift: 10}
		h := trial.LayGround(t, c, by.Pieces(c.Pages)...)
		v, as := by.Twins(h.V.Vals())
		on := plain{as, c}
		there := h.Begins(api.InUsed)
		for turn := range 1 + by.Next(6) {
			page, some := by.Next(c.Pages), 1+by.Next(c.Pages)
			if turn == 0 && len(there) > 0 {
				page = by.Pick(there...)
			}
			n := h.Held[page].Len
			switch by.Next(4) {
			case 0:
				on.wantAlloc(t, v, by.Pick(some, some, some, 0, -1, c.Pages+1))
			case 1:
				on.wantFree(t, v, page)
			default:
				on.wantResize(t, v, page, by.Pick(some, n, n-1, n+1, n+2, 1, 0, -1, c.Pages, c.Pages+1))
			}
		}
	}
}
