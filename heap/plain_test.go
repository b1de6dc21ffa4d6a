package heap_test

import (
	"math"
	"slices"
	"testing"

	"nacre/addr"
	"nacre/api"
	"nacre/block"
	"nacre/class"
	"nacre/heap"
	"nacre/large"
	"nacre/place"
	"nacre/root"
	"nacre/small"
	"nacre/trial"
	"nacre/view"
)

// plain is a View on which the chapter's lines are done as they stand there, and the Pockets of the thread.
type plain struct {
	*view.View
	c api.Config
	q api.Pockets
}

// all is how many bytes all pages have.
func (p *plain) all() int64 { return int64(p.c.Pages) << p.c.Shift }

// allocate is what the chapter says of allocating.
func (p *plain) allocate(size int64) (a, u int64, e api.Errno) {
	if size < 1 || size > p.all() {
		return 0, 0, 2
	}
	if k, ok := class.Of(p.c.Shift, size); ok {
		a, q, ok := small.Alloc(p.View, p.c, p.q, k)
		if !ok {
			return 0, 0, 3
		}
		p.q = q
		return a, class.Size(p.c.Shift, k), 0
	}
	n, _ := addr.Pages(p.c, size)
	page, ok := large.Alloc(p.View, p.c, n)
	if !ok {
		return 0, 0, 3
	}
	return int64(page+1) << p.c.Shift, int64(n) << p.c.Shift, 0
}

// free is what the chapter says of freeing.
func (p *plain) free(f api.Found) {
	if f.Small {
		p.q = small.Free(p.View, p.c, p.q, f.Page, f.Slot)
		return
	}
	large.Free(p.View, p.c, f.Page)
}

// realloc is the chapter's line of OpRealloc.
func (p *plain) realloc(a, b int64) api.Result {
	f, ok := block.At(p.View, p.c, a)
	if !ok {
		return failed(4)
	}
	if b < 1 || b > p.all() {
		return failed(2)
	}
	k, of := class.Of(p.c.Shift, b)
	if f.Small && of && k == f.Class {
		return done(a, f.Size)
	}
	if !f.Small && !of {
		m, _ := addr.Pages(p.c, b)
		if large.Resize(p.View, p.c, f.Page, m) {
			return done(a, int64(m)<<p.c.Shift)
		}
	}
	to, u, e := p.allocate(b)
	if e != 0 {
		return failed(e)
	}
	p.free(f)
	root.Follow(p.View, a, to)
	return done(to, u)
}

// ofRoot is the chapter's lines of the Kinds whose A is a root.
func (p *plain) ofRoot(o api.Op) api.Result {
	if o.A < 0 || o.A > 7 {
		return failed(5)
	}
	i, a := int(o.A), o.B
	switch o.Kind {
	case api.OpGetRoot:
		r, _ := root.Get(p.View, i)
		return done(r, 0)
	case api.OpAllocRoot:
		to, _, e := p.allocate(o.B)
		if e != 0 {
			return failed(e)
		}
		a = to
	case api.OpSetRoot:
		if _, ok := block.At(p.View, p.c, a); a != 0 && !ok {
			return failed(4)
		}
	}
	r, _ := root.Get(p.View, i)
	root.Set(p.View, i, a)
	return done(a, r)
}

// ofBlock is the chapter's lines of OpFree and OpUsable.
func (p *plain) ofBlock(o api.Op) api.Result {
	f, ok := block.At(p.View, p.c, o.A)
	if !ok {
		return failed(4)
	}
	if o.Kind == api.OpFree {
		if root.Held(p.View, o.A) {
			return failed(6)
		}
		p.free(f)
	}
	return done(f.Size, 0)
}

// do is what the chapter says of Do, of an operation that is right.
func (p *plain) do(t, num int, o api.Op) api.Result {
	var r api.Result
	switch o.Kind {
	case api.OpAlloc:
		a, u, e := p.allocate(o.A)
		r = api.Result{Err: e, Out: a, Aux: u}
	case api.OpFree, api.OpUsable:
		r = p.ofBlock(o)
	case api.OpRealloc:
		r = p.realloc(o.A, o.B)
	case api.OpAllocRoot, api.OpSetRoot, api.OpGetRoot:
		r = p.ofRoot(o)
	case api.OpStats:
		r.Out = int64(p.Get(0))
		r.Aux = int64(p.Get(1))
	case api.OpFlush:
		if o.A < 0 || o.A > 8 {
			r = failed(7)
			break
		}
		n, q := small.Flush(p.View, p.c, p.q, int(o.A))
		r.Out, p.q = int64(n), q
	}
	at := 30 + 4*t
	p.Put(at, uint32(num))
	p.Put(at+1, uint32(r.Err))
	p.Put(at+2, uint32(r.Out))
	p.Put(at+3, uint32(r.Aux))
	return r
}

// wantDo does one on both, asks whether the same is done and told, and keeps the Pockets that are left.
func (p *plain) wantDo(t *testing.T, v *view.View, who, num int, o api.Op) {
	t.Helper()
	was := trial.CopyPockets(p.q)
	r, q := heap.Do(v, p.c, who, num, p.q, o)
	wantPockets(t, "handed in", p.q, was)
	if want := p.do(who, num, o); r != want {
		t.Fatalf("Do(%v, %d, %d, %v, %v) = %v, not %v", p.c, who, num, was, o, r, want)
	}
	wantPockets(t, "left", q, p.q)
	trial.WantSame(t, "Do", v, p.View)
}

// P23.1 to P23.3: one by chance on heaps of which all cells are known, or not, with pockets that fit them: what is told, left, read, put and missing is what the chapter's lines say.
func TestAsTheLinesSay(t *testing.T) {
	for seed := range 6000 {
		by := trial.Chance(seed)
		d := by.SomeDealt(t)
		if by.Next(3) > 0 {
			d.Name()
		}
		blocks, who := d.Blocks(), by.Next(d.C.Threads)
		for range 4 {
			v, as := by.Twins(d.V.Vals())
			on := &plain{as, d.C, d.All[who]}
			on.wantDo(t, v, who, by.Pick(1, 2, 1+by.Next(1<<15), maxNum), by.Op(d.C, blocks, d.All[who]))
		}
	}
}

// P23.1 to P23.3: rows by chance of one thread on one View of which all cells are known, or not: so also on cells that were put.
func TestRowsAsTheLinesSay(t *testing.T) {
	for seed := range 1500 {
		by := trial.Chance(seed)
		d := by.SomeDealt(t)
		d.Name()
		who := by.Next(d.C.Threads)
		v, as := by.Twins(d.V.Vals())
		on := &plain{as, d.C, d.All[who]}
		blocks := d.Blocks()
		for num := range 30 {
			if on.Missing() >= 0 {
				break
			}
			if vals := on.Vals(); vals != nil {
				d.V = view.Whole(vals)
				blocks = d.Blocks()
			}
			on.wantDo(t, v, who, 1+num, by.Op(d.C, blocks, on.q))
		}
	}
}

// P23.1 to P23.3: of a heap whose pockets do not fit, as behind a crash, and of values that are no heap, what is done is still what the chapter's lines say, as long as the pockets have slots' addresses: also what was put ahead of an error is put.
func TestOfNoHeapAsTheLinesSay(t *testing.T) {
	for seed := range 3000 {
		by := trial.Chance(seed)
		d := by.SomeDealt(t)
		d.Name()
		vals, blocks := d.V.Vals(), d.Blocks()
		for range by.Next(9) {
			p := by.Next(d.C.Pages)
			switch cell := by.Next(7); cell {
			case 0:
				vals[place.Info(d.C, p)] = by.Info(d.C.Pages)
			case 1, 2, 3:
				vals[place.Info(d.C, p)+cell] = by.Link(d.C.Pages)
			case 4, 5:
				vals[place.Info(d.C, p)+cell] = by.Bits()
			default:
				vals[by.Next(30)] = by.Link(d.C.Pages)
			}
		}
		v, as := by.Twins(vals)
		on := &plain{as, d.C, d.All[by.Next(d.C.Threads)]}
		if by.Next(2) == 0 {
			on.q = empty
		}
		for num := range 8 {
			on.wantDo(t, v, by.Next(d.C.Threads), 1+num, by.Op(d.C, blocks, on.q))
		}
	}
}

// P23.1: any arguments, also pockets that have no slots' addresses, configurations that are not right, and no View: it ends, and does not panic, and what is handed in stays as it is.
func TestAnyArguments(t *testing.T) {
	vals := named(laid(used(1), free(1), of(3, 3, 2), used(1), of(8, 3, 1), of(0, 7, 3), free(2)), 0, 1024, 3, 6144)
	odd := []int64{0, 1, 1023, 1024, 1025, 1024, 1040, 1056, 2047, 2048, 3000, 9215, 9216, -1, -1024, 1<<32 + 1024, math.MaxInt64, math.MinInt64}
	for i, c := range slices.Concat(rights, wrongs, []api.Config{eight}) {
		by := trial.Chance(i)
		for range 400 {
			var p api.Pockets
			for k := range p {
				for range by.Next(7) {
					p[k] = append(p[k], odd[by.Next(len(odd))])
				}
			}
			was := trial.CopyPockets(p)
			o := by.Op(eight, trial.Ground{C: eight, V: view.Whole(vals)}.Blocks(), p)
			who, num := by.Pick(0, 0, 0, 1, -1, 15), by.Pick(1, 1, 1, 0, -1, maxNum)
			v, _ := by.Twins(vals)
			for _, v := range []*view.View{v, nil, {}, view.Whole(nil), view.Whole(vals[:40])} {
				heap.Do(v, c, who, num, p, o)
				wantPockets(t, "handed in", p, was)
			}
		}
	}
}
