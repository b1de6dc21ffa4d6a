package small_test

import (
	"math"
	"slices"
	"testing"

	"nacre/api"
	"nacre/class"
	"nacre/info"
	"nacre/place"
	"nacre/slab"
	"nacre/small"
	"nacre/trial"
	"nacre/view"
)

// plain is a View on which the chapter's lines are done as they stand there.
type plain struct {
	*view.View
	c api.Config
}

// address is the address at which a slot of a slab of the class k begins.
func (p plain) address(k, page, s int) int64 {
	return int64(page+1)<<p.c.Shift + int64(s)*class.Size(p.c.Shift, k)
}

// slot is the page, and the slot of the class k, whose address a is.
func (p plain) slot(k int, a int64) (int, int) {
	bytes := int64(1) << p.c.Shift
	return int(a/bytes) - 1, int(a % bytes / class.Size(p.c.Shift, k))
}

// alloc is what the chapter says of Alloc.
func (p plain) alloc(q api.Pockets, k int) (int64, api.Pockets, bool) {
	if k < 0 || k > 8 {
		return 0, q, false
	}
	var a int64
	if n := len(q[k]); n > 0 {
		a = q[k][n-1]
		q[k] = slices.Clone(q[k][:n-1])
		page, s := p.slot(k, a)
		slots := place.Slots(p.c, page)
		p.Put(slots, p.Get(slots)|1<<s)
	} else {
		page, l, ok := slab.Pick(p.View, p.c, k, 4)
		if !ok {
			return 0, q, false
		}
		slots := place.Slots(p.c, page)
		p.Put(slots, p.Get(slots)|1<<l[0])
		q[k] = nil
		for i := len(l) - 1; i > 0; i-- {
			q[k] = append(q[k], p.address(k, page, l[i]))
		}
		a = p.address(k, page, l[0])
	}
	p.Put(place.Live, p.Get(place.Live)+1)
	return a, q, true
}

// free is what the chapter says of Free.
func (p plain) free(q api.Pockets, page, s int) api.Pockets {
	if s < 0 || s > 31 {
		return q
	}
	i, _ := info.Get(p.Get(place.Info(p.c, page)))
	k := i.Class
	slots := place.Slots(p.c, page)
	p.Put(slots, p.Get(slots)&^(1<<s))
	p.Put(place.Live, p.Get(place.Live)-1)
	if len(q[k]) < 4 {
		q[k] = append(slices.Clone(q[k]), p.address(k, page, s))
	} else {
		slab.Give(p.View, p.c, page, s)
	}
	return q
}

// flush is what the chapter says of Flush.
func (p plain) flush(q api.Pockets, k int) (int, api.Pockets) {
	if k < 0 || k > 8 || len(q[k]) == 0 {
		return 0, q
	}
	page, _ := p.slot(k, q[k][len(q[k])-1])
	var stay []int64
	n := 0
	for _, a := range q[k] {
		at, s := p.slot(k, a)
		if at != page {
			stay = append(stay, a)
			continue
		}
		slab.Give(p.View, p.c, page, s)
		n++
	}
	q[k] = stay
	return n, q
}

// wantAlloc allocates on both, asks whether the same is done and told, and tells the Pockets that are left.
func (p plain) wantAlloc(t *testing.T, v *view.View, q api.Pockets, k int) api.Pockets {
	t.Helper()
	a, left, ok := small.Alloc(v, p.c, q, k)
	at, want, is := p.alloc(q, k)
	if a != at || ok != is {
		t.Fatalf("Alloc(%v, %v, %d) = %d, %t, not %d, %t", p.c, q, k, a, ok, at, is)
	}
	wantPockets(t, "Alloc", left, want)
	trial.WantSame(t, "Alloc", v, p.View)
	return left
}

// wantFree frees on both, asks whether the same is done, and tells the Pockets that are left.
func (p plain) wantFree(t *testing.T, v *view.View, q api.Pockets, page, s int) api.Pockets {
	t.Helper()
	left := small.Free(v, p.c, q, page, s)
	wantPockets(t, "Free", left, p.free(q, page, s))
	trial.WantSame(t, "Free", v, p.View)
	return left
}

// wantFlush flushes on both, asks whether the same is done and told, and tells the Pockets that are left.
func (p plain) wantFlush(t *testing.T, v *view.View, q api.Pockets, k int) api.Pockets {
	t.Helper()
	n, left := small.Flush(v, p.c, q, k)
	many, want := p.flush(q, k)
	if n != many {
		t.Fatalf("Flush(%v, %v, %d) = %d, not %d", p.c, q, k, n, many)
	}
	wantPockets(t, "Flush", left, want)
	trial.WantSame(t, "Flush", v, p.View)
	return left
}

// liveSlot is a slot of a heap that is live, by chance; none, if there is none.
func liveSlot(by *trial.Chance, g trial.Ground, vals []uint32) (int, int, bool) {
	var pages, slots []int
	for _, page := range g.Begins(api.InSlab) {
		for s := range 32 {
			if vals[place.Slots(g.C, page)]>>s&1 == 1 {
				pages, slots = append(pages, page), append(slots, s)
			}
		}
	}
	if len(pages) == 0 {
		return 0, 0, false
	}
	at := by.Next(len(pages))
	return pages[at], slots[at], true
}

// P18.1 to P18.3: one by chance on heaps of which all cells are known, or not, with pockets that fit them: what is read, put, missing and told is what the chapter's lines say.
func TestAsTheLinesSay(t *testing.T) {
	for seed := range 4000 {
		by := trial.Chance(seed)
		h := someHeap(t, &by)
		vals := h.V.Vals()
		v, as := by.Twins(vals)
		on := plain{as, h.C}
		q := h.All[by.Next(len(h.All))]
		k := by.Pick(by.Next(classes), by.Next(classes), by.Next(classes), 9, -1)
		for at := range classes {
			if len(q[at]) > 0 && by.Next(3) == 0 {
				k = at
			}
		}
		switch by.Next(3) {
		case 0:
			on.wantAlloc(t, v, q, k)
		case 1:
			if page, s, ok := liveSlot(&by, h.Ground, vals); ok {
				on.wantFree(t, v, q, page, s)
			}
		case 2:
			on.wantFlush(t, v, q, k)
		}
	}
}

// P18.1 to P18.3: rows by chance on one View of which all cells are known, or not, of one thread: so also on cells that were put.
func TestRowsAsTheLinesSay(t *testing.T) {
	for seed := range 1500 {
		by := trial.Chance(seed)
		h := someHeap(t, &by)
		v, as := by.Twins(h.V.Vals())
		on := plain{as, h.C}
		q := h.All[0]
		kinds := []int{by.Next(classes), by.Next(classes), 8}
		for range 30 {
			if as.Missing() >= 0 {
				break
			}
			k := by.Pick(kinds...)
			switch by.Next(3) {
			case 0:
				q = on.wantAlloc(t, v, q, k)
			case 1:
				if vals := as.Vals(); vals != nil {
					if page, s, ok := liveSlot(&by, h.Ground, vals); ok {
						q = on.wantFree(t, v, q, page, s)
					}
				}
			case 2:
				q = on.wantFlush(t, v, q, k)
			}
		}
	}
}

// odd are addresses in pockets that fit no heap: of no byte, of no slot, of other classes, and the same one several times.
var odd = []int64{0, 1, 1023, 1024, 1025, 1024, 1040, 1056, 2047, 2048, 3000, 9215, 9216, -1, -1024, 1<<32 + 1024, math.MaxInt64, math.MinInt64}

// P18.1 to P18.3: any pockets, pages, slots, classes and configurations: it ends, and does not panic, and what is handed in stays as it is.
func TestAnyArguments(t *testing.T) {
	vals := laid(used(1), free(1), of(3, 3, 2), used(1), of(8, 3, 1), of(0, 7, 3), free(2))
	some := append([]int{0, 1, 2, 3, 4, 5, 7, 8, 9, 31, 32, 1023, 1024}, noPages...)
	for i, c := range slices.Concat(rights, none) {
		by := trial.Chance(i)
		for _, a := range some {
			for _, b := range some {
				var p api.Pockets
				for k := range p {
					for range by.Next(7) {
						p[k] = append(p[k], odd[by.Next(len(odd))])
					}
				}
				was := trial.CopyPockets(p)
				v := view.Whole(vals)
				_, q, _ := small.Alloc(v, c, p, a)
				q = small.Free(v, c, q, a, b)
				_, q = small.Flush(v, c, q, b)
				small.Alloc(v, c, q, b%classes)
				small.Free(v, c, p, a, by.Next(32))
				small.Flush(v, c, p, by.Next(classes))
				wantPockets(t, "handed in", p, was)
			}
		}
	}
}

// P18.1, P18.3: of an address at which no slot begins no page's Slots or Taken is put.
func TestOfNoSlotsAddress(t *testing.T) {
	vals := laid(of(4, 0x0f, 1), of(8, 3, 1), used(6))
	for _, a := range []int64{0, 1, 1023, 1025, 1056, 9216, -1024, 1<<32 + 1024, math.MaxInt64, math.MinInt64} {
		v := view.Whole(vals)
		wantAlloc(t, v, eight, one(4, a), 4, a, empty)
		trial.WantCells(t, v, []int{1}, 1, 4)
		v = view.Whole(vals)
		small.Flush(v, eight, one(4, 1152, a), 4)
		trial.WantCells(t, v, nil)
	}
}
