package sweep_test

import (
	"math/bits"
	"slices"
	"testing"

	"nacre/api"
	"nacre/class"
	"nacre/info"
	"nacre/link"
	"nacre/place"
	"nacre/span"
	"nacre/sweep"
	"nacre/trial"
	"nacre/view"
)

// plain is a View on which the chapter's lines are done as they stand there.
type plain struct {
	*view.View
	c api.Config
}

// page is what the chapter says of Page.
func (x plain) page(p int) bool {
	if p < 0 || p >= x.c.Pages {
		return false
	}
	i, _ := info.Get(x.Get(place.Info(x.c, p)))
	if i.Kind != 3 {
		return false
	}
	k := i.Class
	l := x.Get(place.Slots(x.c, p))
	t := x.Get(place.Taken(x.c, p))
	if l == t {
		return false
	}
	x.Put(place.Taken(x.c, p), l)
	full := bits.OnesCount32(t) == class.Slots(k)
	if l == 0 {
		if !full {
			link.Pull(x.View, x.c, place.Rack(k), p)
		}
		span.Release(x.View, x.c, p, 1)
	} else if full {
		link.Push(x.View, x.c, place.Rack(k), p)
	}
	return true
}

// all is what the chapter says of All, of a configuration that has not very many pages.
func (x plain) all() int {
	n := 0
	for p := 0; p < x.c.Pages; p++ {
		if x.page(p) {
			n++
		}
	}
	return n
}

// wantPage does Page on both, and asks whether the same is done and told.
func (x plain) wantPage(t *testing.T, v *view.View, p int) {
	t.Helper()
	wantPage(t, v, x.c, p, x.page(p))
	trial.WantSame(t, "Page", v, x.View)
}

// wantAll does All on both, and asks whether the same is done and told.
func (x plain) wantAll(t *testing.T, v *view.View) {
	t.Helper()
	wantAll(t, v, x.c, x.all())
	trial.WantSame(t, "All", v, x.View)
}

// someCell is a cell by chance, and a value for it: most often one of a page that is to be swept.
func someCell(by *trial.Chance, c api.Config) (int, uint32) {
	p := by.Next(c.Pages)
	switch by.Next(6) {
	case 0:
		return place.Taken(c, p), by.Bits() & by.Bits()
	case 1:
		return place.Slots(c, p), by.Bits() & by.Bits() & by.Bits()
	case 2:
		return place.Slots(c, p), 0
	case 3:
		return place.Info(c, p), trial.Slab(by.Next(9), 0, 0).Value()
	case 4:
		return place.Info(c, p), by.Info(c.Pages)
	}
	return by.Next(place.Cells(c)), by.Link(c.Pages)
}

// someLaid is a small heap by chance.
func someLaid(t *testing.T, by *trial.Chance) trial.Ground {
	t.Helper()
	c := api.Config{Threads: 1 + by.Next(3), Pages: 4 + by.Next(by.Pick(4, 20)), Shift: 10 + by.Next(11)}
	if by.Next(2) == 0 {
		return trial.LayGround(t, c, by.FewClasses(c.Pages)...)
	}
	return trial.LayGround(t, c, by.Pieces(c.Pages)...)
}

// P24.1, P24.2: by chance on heaps of which all cells are known, or not, also where other cells were put ahead, so that there is no heap: what is read, put, missing and told is what the chapter's lines say.
func TestAsTheLinesSay(t *testing.T) {
	for seed := range 4000 {
		by := trial.Chance(seed)
		g := someLaid(t, &by)
		v, as := by.Twins(g.V.Vals())
		on := plain{as, g.C}
		for range by.Next(2) * by.Next(6) {
			cell, val := someCell(&by, g.C)
			v.Put(cell, val)
			as.Put(cell, val)
		}
		for range by.Next(6) {
			on.wantPage(t, v, by.Next(g.C.Pages))
		}
		on.wantAll(t, v)
	}
}

// P24.1, P24.2: the same of values of which any are no heap's.
func TestOfNoHeapAsTheLinesSay(t *testing.T) {
	for seed := range 3000 {
		by := trial.Chance(seed)
		g := someLaid(t, &by)
		vals := g.V.Vals()
		for range 1 + by.Next(30) {
			cell, val := someCell(&by, g.C)
			vals[cell] = val
		}
		v, as := by.Twins(vals)
		on := plain{as, g.C}
		for p := range g.C.Pages {
			on.wantPage(t, v, p)
		}
		on.wantAll(t, v)
	}
}

// P24.1, P24.2: any pages and configurations, also of cells that are another configuration's: it ends, and does not panic, and does what the lines say.
func TestAnyArguments(t *testing.T) {
	vals := laid(used(1), free(1), of(3, 1, 0), used(1), of(8, 3, 0), of(0, 7, 3), free(2))
	some := append([]int{0, 1, 2, 3, 4, 5, 7, 8, 9, 1023, 1024}, noPages...)
	for _, c := range slices.Concat(rights, wrongs) {
		for _, p := range some {
			v, as := view.Whole(vals), view.Whole(vals)
			on := plain{as, c}
			on.wantPage(t, v, p)
			on.wantPage(t, v, 4)
			if c.Pages <= 1<<14 {
				on.wantAll(t, v)
			}
			sweep.All(v, c)
		}
	}
}
