package bin_test

import (
	"math/bits"
	"testing"

	"nacre/api"
	"nacre/bin"
	"nacre/info"
	"nacre/link"
	"nacre/place"
	"nacre/trial"
	"nacre/view"
)

// of is the bin of n pages; -1, if there is none.
func of(n int) int {
	if n < 1 || n > 1024 {
		return -1
	}
	return bits.Len(uint(n)) - 1
}

// plain is a View on which the chapter's lines are done as they stand there.
type plain struct {
	*view.View
	c api.Config
}

// info is the info of a page.
func (p plain) info(at int) api.Info {
	i, _ := info.Get(p.Get(place.Info(p.c, at)))
	return i
}

// add is what the chapter says of Add.
func (p plain) add(at, n int) {
	if at < 0 || at >= p.c.Pages || n < 1 || n > p.c.Pages-at {
		return
	}
	p.Put(place.Info(p.c, at), trial.Free(n).Value())
	p.Put(place.Foot(p.c, at+n-1), uint32(at+1))
	link.Push(p.View, p.c, place.Bin(of(n)), at)
}

// drop is what the chapter says of Drop.
func (p plain) drop(at int) int {
	if at < 0 || at >= p.c.Pages {
		return 0
	}
	i := p.info(at)
	if i.Kind != api.InFree {
		return 0
	}
	link.Pull(p.View, p.c, place.Bin(of(i.Len)), at)
	return i.Len
}

// isLink tells whether a value is the link of a page.
func (p plain) isLink(q uint32) bool {
	return q >= 1 && int(q) <= p.c.Pages
}

// find is what the chapter says of Find.
func (p plain) find(n int) (int, bool) {
	if n < 1 || n > p.c.Pages {
		return 0, false
	}
	q := p.Get(place.Bin(of(n)))
	for looks := 0; looks < p.c.Pages && p.isLink(q); looks++ {
		if i := p.info(int(q) - 1); i.Kind == api.InFree && i.Len >= n {
			return int(q) - 1, true
		}
		q = p.Get(place.Next(p.c, int(q)-1))
	}
	for k := of(n) + 1; k <= 10; k++ {
		q = p.Get(place.Bin(k))
		if p.isLink(q) {
			return int(q) - 1, true
		}
	}
	return 0, false
}

// kind is one of the three that is done on bins.
type kind int

const (
	added kind = iota
	dropped
	found
	kinds
)

// wantDone does one on both, and asks whether the same is done and told.
func (p plain) wantDone(t *testing.T, v *view.View, what kind, at, n int) {
	t.Helper()
	switch what {
	case added:
		bin.Add(v, p.c, at, n)
		p.add(at, n)
		trial.WantSame(t, "Add", v, p.View)
	case dropped:
		if got, want := bin.Drop(v, p.c, at), p.drop(at); got != want {
			t.Fatalf("Drop(%v, %d) = %d, not %d", p.c, at, got, want)
		}
		trial.WantSame(t, "Drop", v, p.View)
	default:
		page, ok := bin.Find(v, p.c, n)
		if want, is := p.find(n); page != want || ok != is {
			t.Fatalf("Find(%v, %d) = %d, %t, not %d, %t", p.c, n, page, ok, want, is)
		}
		trial.WantSame(t, "Find", v, p.View)
	}
}
