package link_test

import (
	"slices"
	"testing"

	"nacre/api"
	"nacre/link"
	"nacre/place"
	"nacre/trial"
	"nacre/view"
)

// plain is a View on which the chapter's lines are done as they stand there.
type plain struct {
	*view.View
	c api.Config
}

// push is what the chapter says of Push.
func (p plain) push(head, at int) {
	if at < 0 || at >= p.c.Pages {
		return
	}
	h := p.Get(head)
	p.Put(place.Next(p.c, at), h)
	p.Put(place.Prev(p.c, at), 0)
	if h != 0 {
		p.Put(place.Prev(p.c, int(h)-1), uint32(at+1))
	}
	p.Put(head, uint32(at+1))
}

// pull is what the chapter says of Pull.
func (p plain) pull(head, at int) {
	if at < 0 || at >= p.c.Pages {
		return
	}
	n := p.Get(place.Next(p.c, at))
	b := p.Get(place.Prev(p.c, at))
	if b == 0 {
		p.Put(head, n)
	} else {
		p.Put(place.Next(p.c, int(b)-1), n)
	}
	if n != 0 {
		p.Put(place.Prev(p.c, int(n)-1), b)
	}
	p.Put(place.Next(p.c, at), 0)
	p.Put(place.Prev(p.c, at), 0)
}

// walk is what the chapter says of Walk.
func (p plain) walk(head int) []int {
	var pages []int
	q := p.Get(head)
	for q >= 1 && int(q) <= p.c.Pages && len(pages) < p.c.Pages {
		pages = append(pages, int(q)-1)
		q = p.Get(place.Next(p.c, int(q)-1))
	}
	return pages
}

// kind is one of the three that is done on a list.
type kind int

const (
	pushed kind = iota
	pulled
	walked
	kinds
)

// wantDone does one on both, and asks whether the same is done and told.
func (p plain) wantDone(t *testing.T, v *view.View, what kind, head, at int) {
	t.Helper()
	switch what {
	case pushed:
		link.Push(v, p.c, head, at)
		p.push(head, at)
		trial.WantSame(t, "Push", v, p.View)
	case pulled:
		link.Pull(v, p.c, head, at)
		p.pull(head, at)
		trial.WantSame(t, "Pull", v, p.View)
	default:
		got, want := link.Walk(v, p.c, head), p.walk(head)
		if !slices.Equal(got, want) {
			t.Fatalf("Walk(%v, %d) = %v, not %v", p.c, head, got, want)
		}
		trial.WantSame(t, "Walk", v, p.View)
	}
}
