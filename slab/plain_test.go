package slab_test

import (
	"math/bits"
	"slices"
	"testing"

	"nacre/api"
	"nacre/class"
	"nacre/info"
	"nacre/link"
	"nacre/place"
	"nacre/slab"
	"nacre/span"
	"nacre/trial"
	"nacre/view"
)

// plain is a View on which the chapter's lines are done as they stand there.
type plain struct {
	*view.View
	c api.Config
}

// isFull tells whether a Taken has as many bits as the class has slots.
func isFull(k int, taken uint32) bool { return bits.OnesCount32(taken) == class.Slots(k) }

// pick is what the chapter says of Pick.
func (p plain) pick(k, want int) (int, []int, bool) {
	if k < 0 || k > 8 || want < 1 || want > 4 {
		return -1, nil, false
	}
	q := p.Get(place.Rack(k))
	at := int(q) - 1
	if q == 0 {
		var ok bool
		if at, ok = span.Take(p.View, p.c, 1); !ok {
			return -1, nil, false
		}
		p.Put(place.Info(p.c, at), trial.Slab(k, 0, 0).Value())
		link.Push(p.View, p.c, place.Rack(k), at)
	}
	t := p.Get(place.Taken(p.c, at))
	u := t
	var l []int
	for s := 0; s < class.Slots(k) && len(l) < want; s++ {
		if t>>s&1 == 0 {
			l = append(l, s)
			u |= 1 << s
		}
	}
	if len(l) == 0 {
		return -1, nil, false
	}
	p.Put(place.Taken(p.c, at), u)
	if isFull(k, u) {
		link.Pull(p.View, p.c, place.Rack(k), at)
	}
	return at, l, true
}

// give is what the chapter says of Give.
func (p plain) give(at, s int) {
	if s < 0 || s > 31 {
		return
	}
	i, _ := info.Get(p.Get(place.Info(p.c, at)))
	k := i.Class
	t := p.Get(place.Taken(p.c, at))
	u := t &^ (1 << s)
	if u == 0 {
		if !isFull(k, t) {
			link.Pull(p.View, p.c, place.Rack(k), at)
		}
		p.Put(place.Taken(p.c, at), 0)
		span.Release(p.View, p.c, at, 1)
	} else {
		p.Put(place.Taken(p.c, at), u)
		if isFull(k, t) {
			link.Push(p.View, p.c, place.Rack(k), at)
		}
	}
}

// wantPick picks on both, and asks whether the same is done and told.
func (p plain) wantPick(t *testing.T, v *view.View, k, want int) {
	t.Helper()
	page, l, ok := slab.Pick(v, p.c, k, want)
	at, slots, is := p.pick(k, want)
	if page != at || !slices.Equal(l, slots) || ok != is {
		t.Fatalf("Pick(%v, %d, %d) = %d, %v, %t, not %d, %v, %t", p.c, k, want, page, l, ok, at, slots, is)
	}
	trial.WantSame(t, "Pick", v, p.View)
}

// wantGive gives on both, and asks whether the same is done.
func (p plain) wantGive(t *testing.T, v *view.View, at, s int) {
	t.Helper()
	slab.Give(v, p.c, at, s)
	p.give(at, s)
	trial.WantSame(t, "Give", v, p.View)
}

// wantAny does one by chance on both, and asks whether the same is done and told.
func (p plain) wantAny(t *testing.T, v *view.View, by *trial.Chance) {
	t.Helper()
	if by.Next(2) == 0 {
		p.wantPick(t, v, by.Pick(by.Next(9), by.Next(9), by.Next(9), 8, -1, 9), by.Pick(1, 2, 3, 4, 4, 0, 5, -1))
		return
	}
	p.wantGive(t, v, by.Next(p.c.Pages), by.Pick(by.Next(3), by.Next(10), by.Next(32), -1, 32, 40))
}
