package model_test

import (
	"maps"
	"slices"
	"testing"

	"nacre/api"
	"nacre/model"
	"nacre/op"
	"nacre/trial"
)

// plain is what a heap holds, byte by byte: owner is, of each byte of the pages, the address of the block that it is in, or 0; size is of each live block's address how many bytes it has.
type plain struct {
	c     api.Config
	owner []int64
	size  map[int64]int64
	roots [api.Roots]int64
}

// plainOf is one that holds nothing.
func plainOf(c api.Config) *plain {
	return &plain{c: c, owner: make([]int64, c.Pages<<c.Shift), size: map[int64]int64{}}
}

// fits tells whether there are n bytes from a on, each of them free, or in the block at own.
func (p *plain) fits(a, n, own int64) bool {
	for x := a; x < a+n; x++ {
		if x < first(p.c) || x >= end(p.c) {
			return false
		}
		if at := p.owner[x-first(p.c)]; at != 0 && at != own {
			return false
		}
	}
	return true
}

// lay makes n bytes from a on those of the block at a, or free.
func (p *plain) lay(a, n int64, live bool) {
	delete(p.size, a)
	if live {
		p.size[a] = n
	}
	for x := a; x < a+n; x++ {
		p.owner[x-first(p.c)] = 0
		if live {
			p.owner[x-first(p.c)] = a
		}
	}
}

// state is what it holds.
func (p *plain) state() api.State {
	s := api.State{Roots: p.roots}
	for _, a := range slices.Sorted(maps.Keys(p.size)) {
		s.Live = append(s.Live, api.Block{Addr: a, Size: p.size[a]})
	}
	return s
}

// held tells whether a root names what is at a.
func (p *plain) held(a int64) bool {
	for _, r := range p.roots {
		if r == a {
			return true
		}
	}
	return false
}

// of is what the root is whose number is right.
func (p *plain) of(i int64) int64 { return p.roots[i] }

// ofSize is the chapter's lines of OpAlloc, OpRealloc and OpAllocRoot, whose size is what it is, and which answers aux, behind what else may be an error; own is the block that may stay.
func (p *plain) ofSize(size, own, aux int64, r api.Result) bool {
	u := rounded(p.c, size)
	switch {
	case u == 0:
		return r == failed(2)
	case r.Err == 3:
		return r == failed(3)
	case r.Err != 0 || r.Aux != aux:
		return false
	}
	return p.fits(r.Out, u, 0) || own != 0 && r.Out == own && p.fits(own, u, own)
}

// may is what the chapter says of Allows.
func (p *plain) may(o api.Op, r api.Result) bool {
	isRoot := o.A >= 0 && o.A <= 7
	switch {
	case !op.Right(o):
		return r == failed(1)
	case o.Kind >= 4 && o.Kind <= 6 && !isRoot:
		return r == failed(5)
	case (o.Kind == 2 || o.Kind == 3 || o.Kind == 7) && p.size[o.A] == 0:
		return r == failed(4)
	}
	switch o.Kind {
	case 1:
		return p.ofSize(o.A, 0, rounded(p.c, o.A), r)
	case 2:
		return r == failed(6) && p.held(o.A) || r == done(p.size[o.A], 0) && !p.held(o.A)
	case 3:
		return p.ofSize(o.B, o.A, rounded(p.c, o.B), r)
	case 4:
		return p.ofSize(o.B, 0, p.of(o.A), r)
	case 5:
		if o.B != 0 && p.size[o.B] == 0 {
			return r == failed(4)
		}
		return r == done(o.B, p.of(o.A))
	case 6:
		return r == done(p.of(o.A), 0)
	case 7:
		return r == done(p.size[o.A], 0)
	case 8:
		return r.Err == 0 && r.Out >= 0 && r.Out <= int64(p.c.Pages) && r.Aux == int64(len(p.size))
	}
	if o.A < 0 || o.A > 8 {
		return r == failed(7)
	}
	return r.Err == 0 && r.Out >= 0 && r.Out <= 4 && r.Aux == 0
}

// apply is what the chapter says of Apply, of a result that may be.
func (p *plain) apply(o api.Op, r api.Result) {
	if r.Err != 0 {
		return
	}
	switch o.Kind {
	case 1:
		p.lay(r.Out, r.Aux, true)
	case 2:
		p.lay(o.A, r.Out, false)
	case 3:
		p.lay(o.A, p.size[o.A], false)
		p.lay(r.Out, r.Aux, true)
		for i, a := range p.roots {
			if a == o.A {
				p.roots[i] = r.Out
			}
		}
	case 4:
		p.lay(r.Out, rounded(p.c, o.B), true)
		p.roots[o.A] = r.Out
	case 5:
		p.roots[o.A] = o.B
	}
}

// someOut is an address by chance: most often one from which on u bytes may be free, or nearly: behind a block, ahead of one, or at an end of the pages.
func (p *plain) someOut(by *trial.Chance, o api.Op, u int64) int64 {
	a := int64(by.Pick(int(first(p.c)), int(end(p.c)-u), int(first(p.c))+by.Next(p.c.Pages<<p.c.Shift)))
	if l := p.state().Live; len(l) > 0 && by.Next(3) > 0 {
		b := l[by.Next(len(l))]
		a = []int64{b.Addr + b.Size, b.Addr - u, b.Addr}[by.Next(3)]
	}
	if o.Kind == 3 && by.Next(3) == 0 {
		a = o.A
	}
	return a + int64(by.Pick(0, 0, 0, 0, 0, 1, -1))
}

// someResult is a result by chance: most often one that the operation may answer, or nearly.
func (p *plain) someResult(by *trial.Chance, o api.Op) api.Result {
	u, out := rounded(p.c, o.A), int64(0)
	if o.Kind == 3 || o.Kind == 4 {
		u = rounded(p.c, o.B)
	}
	aux := u
	switch o.Kind {
	case 1, 3, 4:
		out = p.someOut(by, o, u)
	case 2, 7:
		out, aux = p.size[o.A], 0
	case 5:
		out = o.B
	case 8:
		out, aux = int64(by.Pick(-1, 0, p.c.Pages, p.c.Pages+1, by.Next(p.c.Pages))), int64(len(p.size))
	case 9:
		out, aux = int64(by.Next(7)-1), 0
	}
	if (o.Kind == 4 || o.Kind == 5) && o.A >= 0 && o.A < 8 {
		aux = p.of(o.A)
	}
	if o.Kind == 6 && o.A >= 0 && o.A < 8 {
		out, aux = p.of(o.A), 0
	}
	switch by.Next(16) {
	case 0:
		return done(out+int64(by.Pick(-1, 1, 1<<32)), aux)
	case 1:
		return done(out, aux+int64(by.Pick(-1, 1, 1<<32)))
	case 2:
		return api.Result{Err: api.Errno(by.Next(9)), Out: out, Aux: aux}
	case 3, 4, 5:
		return failed(api.Errno(1 + by.Next(8)))
	}
	return done(out, aux)
}

// someOp is an operation by chance, which is not right now and then.
func (p *plain) someOp(by *trial.Chance) api.Op {
	o := by.Op(p.c, p.state().Live, api.Pockets{})
	switch by.Next(40) {
	case 0:
		o.Kind = by.Next(12)
	case 1:
		o.B = int64(by.Pick(1, -1, 20, 1024))
	}
	return o
}

// P26.3, P26.4: rows by chance of operations and results: whether they are allowed, and what the Model has behind them, is what the chapter says, byte by byte.
func TestAsTheChapterSays(t *testing.T) {
	var mays [12][2]int
	for seed := range 400 {
		by := trial.Chance(seed)
		c := api.Config{Threads: 1 + by.Next(16), Pages: 4 + by.Next(5), Shift: 10}
		p, m := plainOf(c), model.New(c)
		for turn := range 120 {
			o := p.someOp(&by)
			r := p.someResult(&by, o)
			may := p.may(o, r)
			if got := m.Allows(o, r); got != may {
				t.Fatalf("row %d, turn %d: of %v %v Allows(%v, %v) = %v", seed, turn, c, p.state(), o, r, got)
			}
			if got := m.Apply(o, r); got != may {
				t.Fatalf("row %d, turn %d: of %v %v Apply(%v, %v) = %v", seed, turn, c, p.state(), o, r, got)
			}
			if mays[o.Kind][0]++; may {
				mays[o.Kind][1]++
				p.apply(o, r)
			}
			wantState(t, m, p.state())
			if by.Next(8) == 0 {
				m = of(t, c, p.state())
			}
		}
	}
	for kind := 1; kind <= 9; kind++ {
		if n := mays[kind]; n[1] < 100 || n[0]-n[1] < 100 {
			t.Fatalf("of the Kind %d %d of %d were allowed", kind, n[1], n[0])
		}
	}
}

// P26.2: states by chance: whether they can be is what the chapter says, byte by byte.
func TestStatesThatCanBe(t *testing.T) {
	var count [2]int
	for seed := range 20000 {
		by := trial.Chance(seed)
		c := api.Config{Threads: 1, Pages: 4 + by.Next(3), Shift: 10}
		p, can := plainOf(c), true
		var s api.State
		for range by.Next(6) {
			n := int64(by.Pick(1, 1, 2, 16, 500, 900, 2000, by.Next(3)-1))
			a := p.someOut(&by, api.Op{}, n)
			s.Live = append(s.Live, api.Block{Addr: a, Size: n})
			if can = can && n >= 1 && p.fits(a, n, 0); can {
				p.lay(a, n, true)
			}
		}
		for i := range s.Roots {
			if len(s.Live) > 0 && by.Next(2) == 0 {
				s.Roots[i] = s.Live[by.Next(len(s.Live))].Addr + int64(by.Next(40)/39)
				can = can && p.size[s.Roots[i]] != 0
			}
		}
		m := model.Of(c, s)
		if (m != nil) != can {
			t.Fatalf("of %v %v can be: %v", c, s, can)
		}
		if count[0]++; can {
			count[1]++
			p.roots = s.Roots
			wantState(t, m, p.state())
		}
	}
	if count[1] < 2000 || count[0]-count[1] < 2000 {
		t.Fatalf("%d of %d can be", count[1], count[0])
	}
}
