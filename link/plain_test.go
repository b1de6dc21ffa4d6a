package link_test

import (
	"slices"
	"testing"

	"nacre/api"
	"nacre/link"
	"nacre/view"
)

// cell is the number of a page's cell that stands behind so many others of it, as chapter 7 has it; -1, if there is none.
func cell(c api.Config, p, behind int) int {
	right := c.Threads >= 1 && c.Threads <= 16 && c.Pages >= 4 && c.Pages <= 1024 && c.Shift >= 10 && c.Shift <= 20
	if !right || p < 0 || p >= c.Pages {
		return -1
	}
	return 30 + 4*c.Threads + 6*p + behind
}

func next(c api.Config, p int) int { return cell(c, p, 2) }

func prev(c api.Config, p int) int { return cell(c, p, 3) }

// cells is how many cells a right configuration has.
func cells(c api.Config) int {
	return 30 + 4*c.Threads + 6*c.Pages
}

// plain is cells on which the chapter's lines are done as they stand there.
type plain struct {
	c       api.Config
	vals    []uint32     // what they are now
	lacks   map[int]bool // those that are not known
	put     map[int]bool
	reads   []int
	writes  []int
	missing int
}

// plainOf is cells of these values, of which those that it lacks are not known; and a View of the same.
func plainOf(c api.Config, vals []uint32, lacks map[int]bool) (*plain, *view.View) {
	p := &plain{c: c, vals: slices.Clone(vals), lacks: lacks, put: map[int]bool{}, missing: -1}
	if lacks == nil {
		return p, view.Whole(vals)
	}
	var l []api.Pair
	for i, val := range vals {
		if !lacks[i] {
			l = append(l, api.Pair{Cell: i, Val: val})
		}
	}
	return p, view.Known(len(vals), l)
}

// is tells whether the cell i may be got, and put.
func (p *plain) is(i int) bool {
	return p.missing < 0 && i >= 0 && i < len(p.vals)
}

func (p *plain) get(i int) uint32 {
	switch {
	case !p.is(i):
		return 0
	case p.put[i]:
		return p.vals[i]
	case p.lacks[i]:
		p.missing = i
		return 0
	}
	if !slices.Contains(p.reads, i) {
		p.reads = append(p.reads, i)
	}
	return p.vals[i]
}

func (p *plain) set(i int, val uint32) {
	if !p.is(i) {
		return
	}
	if !p.put[i] {
		p.put[i] = true
		p.writes = append(p.writes, i)
	}
	p.vals[i] = val
}

// push is what the chapter says of Push.
func (p *plain) push(head, at int) {
	if at < 0 || at >= p.c.Pages {
		return
	}
	h := p.get(head)
	p.set(next(p.c, at), h)
	p.set(prev(p.c, at), 0)
	if h != 0 {
		p.set(prev(p.c, int(h)-1), uint32(at+1))
	}
	p.set(head, uint32(at+1))
}

// pull is what the chapter says of Pull.
func (p *plain) pull(head, at int) {
	if at < 0 || at >= p.c.Pages {
		return
	}
	n := p.get(next(p.c, at))
	b := p.get(prev(p.c, at))
	if b == 0 {
		p.set(head, n)
	} else {
		p.set(next(p.c, int(b)-1), n)
	}
	if n != 0 {
		p.set(prev(p.c, int(n)-1), b)
	}
	p.set(next(p.c, at), 0)
	p.set(prev(p.c, at), 0)
}

// walk is what the chapter says of Walk.
func (p *plain) walk(head int) []int {
	var pages []int
	q := p.get(head)
	for q >= 1 && int(q) <= p.c.Pages && len(pages) < p.c.Pages {
		pages = append(pages, int(q)-1)
		q = p.get(next(p.c, int(q)-1))
	}
	return pages
}

// wantSame asks whether v is as p.
func (p *plain) wantSame(t *testing.T, what string, v *view.View) {
	t.Helper()
	if got := v.Reads(); !slices.Equal(got, p.reads) {
		t.Fatalf("%s of %v: Reads() = %v, not %v", what, p.c, got, p.reads)
	}
	var writes []api.Pair
	for _, i := range p.writes {
		writes = append(writes, api.Pair{Cell: i, Val: p.vals[i]})
	}
	if got := v.Writes(); !slices.Equal(got, writes) {
		t.Fatalf("%s of %v: Writes() = %v, not %v", what, p.c, got, writes)
	}
	if got := v.Missing(); got != p.missing {
		t.Fatalf("%s of %v: Missing() = %d, not %d", what, p.c, got, p.missing)
	}
	if got := v.Vals(); p.lacks == nil && !slices.Equal(got, p.vals) {
		t.Fatalf("%s of %v: Vals() = %v, not %v", what, p.c, got, p.vals)
	}
}

// kind is one of the three that is done on a list.
type kind int

const (
	pushed kind = iota
	pulled
	walked
	kinds
)

// wantDone does one on both, and asks whether the same is done and told.
func (p *plain) wantDone(t *testing.T, v *view.View, what kind, head, at int) {
	t.Helper()
	switch what {
	case pushed:
		link.Push(v, p.c, head, at)
		p.push(head, at)
		p.wantSame(t, "Push", v)
	case pulled:
		link.Pull(v, p.c, head, at)
		p.pull(head, at)
		p.wantSame(t, "Pull", v)
	default:
		got, want := link.Walk(v, p.c, head), p.walk(head)
		if !slices.Equal(got, want) {
			t.Fatalf("Walk(%v, %d) = %v, not %v", p.c, head, got, want)
		}
		p.wantSame(t, "Walk", v)
	}
}

// chance is a row of numbers that looks like one by chance.
type chance uint32

// next is the next number, below n.
func (c *chance) next(n int) int {
	*c = *c*1664525 + 1013904223
	return int(*c>>16) % n
}

// link is a value that is most often the link of a page, or 0, and else the link of none.
func (c *chance) link(pages int) uint32 {
	switch c.next(12) {
	case 0, 1, 2:
		return 0
	case 3:
		return uint32(pages + 1 + c.next(3))
	case 4:
		return uint32(1)<<(16+c.next(16)) + uint32(c.next(pages+1))
	case 5:
		return -uint32(c.next(3))
	}
	return uint32(1 + c.next(pages))
}

// pick is one of some.
func (c *chance) pick(l ...int) int { return l[c.next(len(l))] }
