package block_test

import (
	"testing"

	"nacre/addr"
	"nacre/api"
	"nacre/block"
	"nacre/class"
	"nacre/info"
	"nacre/place"
	"nacre/trial"
	"nacre/view"
)

// plain is a View on which the chapter's lines are done as they stand there.
type plain struct {
	*view.View
	c api.Config
}

// at is what the chapter says of At.
func (p plain) at(a int64) (api.Found, bool) {
	page, off, ok := addr.Page(p.c, a)
	if !ok {
		return api.Found{}, false
	}
	i, _ := info.Get(p.Get(place.Info(p.c, page)))
	if i.Kind == api.InUsed && off == 0 {
		return api.Found{Page: page, Len: i.Len, Size: int64(i.Len) << p.c.Shift}, true
	}
	if i.Kind == api.InSlab {
		if s, ok := addr.Slot(p.c, i.Class, off); ok {
			if bits := p.Get(place.Slots(p.c, page)); bits&(1<<s) != 0 {
				return api.Found{Small: true, Page: page, Slot: s, Class: i.Class, Size: class.Size(p.c.Shift, i.Class)}, true
			}
		}
	}
	return api.Found{}, false
}

// address is an address by chance: most often one at which a block may begin, else one beside it, or any one.
func address(by *trial.Chance, c api.Config) int64 {
	k := by.Next(classes)
	a := int64(1+by.Next(c.Pages))<<c.Shift + int64(by.Next(class.Slots(k)+2))*class.Size(c.Shift, k)
	switch by.Next(8) {
	case 0:
		return a + int64(by.Next(5)) - 2
	case 1:
		return int64(by.Next(c.Pages+2))<<c.Shift + int64(by.Next(1<<10))
	}
	return a
}

// P20.1: rows by chance, of heaps and of values that are none, of which all cells are known, or not: what is told, read and missing is what the chapter's lines say.
func TestAsTheLinesSay(t *testing.T) {
	for seed := range 4000 {
		by := trial.Chance(seed)
		c := api.Config{Threads: 1 + by.Next(3), Pages: 4 + by.Next(12), Shift: 10 + by.Next(3)}
		vals := trial.Lay(c, by.Pieces(c.Pages)...).Vals
		if by.Next(4) == 0 {
			for range 1 + by.Next(9) {
				p := by.Next(c.Pages)
				vals[place.Info(c, p)], vals[place.Slots(c, p)] = by.Info(c.Pages), by.Bits()
			}
		}
		v, as := by.Twins(vals)
		on := plain{as, c}
		for range 1 + by.Next(12) {
			a := address(&by, c)
			got, ok := block.At(v, c, a)
			if want, is := on.at(a); got != want || ok != is {
				t.Fatalf("At(%v, %d) = %v, %t, not %v, %t", c, a, got, ok, want, is)
			}
			trial.WantSame(t, "At", v, as)
		}
	}
}
