package heap_test

import (
	"fmt"
	"maps"
	"slices"
	"testing"

	"nacre/api"
	"nacre/audit"
	"nacre/heap"
	"nacre/trial"
	"nacre/view"
)

// maxWrites is how many cells a change may write, as the document has it.
const maxWrites = 96

// slotsOf is how many slots a slab of each class has, as chapter 5 has it.
var slotsOf = [classes]int64{32, 21, 16, 10, 8, 5, 4, 3, 2}

// store is a heap whose threads do operations, and what it is to hold: of each live block's address its size, what the roots are, and the four cells of each thread.
type store struct {
	trial.Dealt
	live  map[int64]int64
	roots [roots]int64
	last  [][4]uint32
}

// storeOf is a heap as it is found.
func storeOf(d trial.Dealt) *store {
	s := &store{Dealt: d, live: map[int64]int64{}, last: make([][4]uint32, d.C.Threads)}
	held, _ := audit.State(d.C, d.V.Vals())
	for _, b := range held.Live {
		s.live[b.Addr] = b.Size
	}
	s.roots = held.Roots
	return s
}

// stores are heaps of each sort, of which roots name blocks.
func stores(t *testing.T) []*store {
	t.Helper()
	var l []*store
	for _, d := range trial.Dealts(t, rights) {
		d.Name()
		l = append(l, storeOf(d))
	}
	return l
}

// copied is a heap that holds the same.
func (s *store) copied() *store {
	return &store{s.Dealt.Copied(), maps.Clone(s.live), s.roots, slices.Clone(s.last)}
}

// bytes is how many bytes a page has.
func (s *store) bytes() int64 { return 1 << s.C.Shift }

// kind is of which class a block of that size is to be; below 0, if it is to have whole pages.
func (s *store) kind(size int64) int {
	return slices.IndexFunc(slotsOf[:], func(n int64) bool { return s.bytes()/n/16*16 >= size })
}

// usable is how many bytes may be used of a block of that size; 0, if there can be none.
func (s *store) usable(size int64) int64 {
	page := s.bytes()
	if size < 1 || size > page*int64(s.C.Pages) {
		return 0
	}
	if k := s.kind(size); k >= 0 {
		return page / slotsOf[k] / 16 * 16
	}
	return (size + page - 1) / page * page
}

// hasRoom tells whether a thread can allocate a block of that size: of a class it is to have one at hand, or a slot is to be free, or a page; of pages a free span is to have so many.
func (s *store) hasRoom(who int, size int64) bool {
	k, u := s.kind(size), s.usable(size)
	if k >= 0 && len(s.All[who][k]) > 0 {
		return true
	}
	return slices.ContainsFunc(audit.Parts(s.C, s.V.Vals()), func(x api.Part) bool {
		return x.Kind == api.PtFree && (k >= 0 || x.Size >= u) || x.Kind == api.PtSlot && k >= 0 && x.Size == u
	})
}

// stays tells whether the block at a can have that size where it stands: a small one that of its class, one of pages fewer, as many, or more that are free just behind it.
func (s *store) stays(a, size int64) bool {
	has, wants := s.live[a], s.usable(size)
	if has < s.bytes() || wants < s.bytes() {
		return has == wants
	}
	return wants <= has || slices.ContainsFunc(audit.Parts(s.C, s.V.Vals()), func(x api.Part) bool {
		return x.Kind == api.PtFree && x.Addr == a+has && x.Size >= wants-has
	})
}

// errs is the error that an operation of a thread is to tell, if it is to tell one.
func (s *store) errs(who int, o api.Op) api.Errno {
	size := o.A
	switch o.Kind {
	case 2, 3, 7:
		if s.live[o.A] == 0 {
			return 4
		}
	case 4, 5, 6:
		if o.A < 0 || o.A > 7 {
			return 5
		}
	case 9:
		if o.A < 0 || o.A > 8 {
			return 7
		}
	}
	switch {
	case o.Kind == 2 && slices.Contains(s.roots[:], o.A):
		return 6
	case o.Kind == 5 && o.B != 0 && s.live[o.B] == 0:
		return 4
	case o.Kind == 3 || o.Kind == 4:
		size = o.B
	case o.Kind != 1:
		return 0
	}
	switch {
	case s.usable(size) == 0:
		return 2
	case o.Kind == 3 && s.stays(o.A, size), s.hasRoom(who, size):
		return 0
	}
	return 3
}

// pagesFree is how many pages are free.
func (s *store) pagesFree() int64 {
	n := int64(0)
	for _, x := range audit.Parts(s.C, s.V.Vals()) {
		if x.Kind == api.PtFree {
			n += x.Size / s.bytes()
		}
	}
	return n
}

// flushed is how many slots OpFlush of a class is to give back: those on the page of the last one.
func (s *store) flushed(who, k int) int64 {
	l, n := s.All[who][k], int64(0)
	for _, a := range l {
		if a/s.bytes() == l[len(l)-1]/s.bytes() {
			n++
		}
	}
	return n
}

// answers is what an operation of a thread that tells no error is to answer; where a block is allocated, its address is what was told.
func (s *store) answers(who int, o api.Op, told api.Result) api.Result {
	switch o.Kind {
	case 1:
		return done(told.Out, s.usable(o.A))
	case 2, 7:
		return done(s.live[o.A], 0)
	case 3:
		if s.stays(o.A, o.B) {
			return done(o.A, s.usable(o.B))
		}
		return done(told.Out, s.usable(o.B))
	case 4:
		return done(told.Out, s.roots[o.A])
	case 5:
		return done(o.B, s.roots[o.A])
	case 6:
		return done(s.roots[o.A], 0)
	case 8:
		return done(s.pagesFree(), int64(len(s.live)))
	}
	return done(s.flushed(who, int(o.A)), 0)
}

// apply has the heap be one that is to hold what it holds behind an operation that answered r, without an error.
func (s *store) apply(o api.Op, r api.Result) {
	switch o.Kind {
	case 1:
		s.live[r.Out] = r.Aux
	case 2:
		delete(s.live, o.A)
	case 3:
		delete(s.live, o.A)
		s.live[r.Out] = r.Aux
		for i, a := range s.roots {
			if a == o.A {
				s.roots[i] = r.Out
			}
		}
	case 4:
		s.live[r.Out] = s.usable(o.B)
		s.roots[o.A] = r.Out
	case 5:
		s.roots[o.A] = o.B
	}
}

// want asks whether the values are a heap that the pockets fit, which holds just what it is to hold, and whether the cells of the threads are what their last operations put.
func (s *store) want(t *testing.T, what string) {
	t.Helper()
	s.WantFits(t, what)
	vals := s.V.Vals()
	held, _ := audit.State(s.C, vals)
	if held.Roots != s.roots {
		t.Fatalf("%s: the roots of %v are %v, not %v", what, s.C, held.Roots, s.roots)
	}
	for _, b := range held.Live {
		if s.live[b.Addr] != b.Size {
			t.Fatalf("%s: of %v %v is live, not one of %d", what, s.C, b, s.live[b.Addr])
		}
	}
	if len(held.Live) != len(s.live) {
		t.Fatalf("%s: the live blocks of %v are %v, not %v", what, s.C, held.Live, s.live)
	}
	for i, last := range s.last {
		if got := [4]uint32(vals[30+4*i:]); got != last {
			t.Fatalf("%s: the cells of the thread %d of %v are %v, not %v", what, i, s.C, got, last)
		}
	}
}

// isQuiet tells whether an operation that answered r is to put nothing but the thread's cells.
func isQuiet(o api.Op, r api.Result) bool {
	return r.Err != 0 || o.Kind >= 6 && o.Kind <= 8 || o.Kind == 9 && r.Out == 0
}

// do has a thread do an operation, and asks whether it answers what it is to answer, and does what it is to do.
func (s *store) do(t *testing.T, what string, who, num int, o api.Op) api.Result {
	t.Helper()
	s.V = view.Whole(s.V.Vals())
	before := s.copied()
	r, left := heap.Do(s.V, s.C, who, num, s.All[who], o)
	want := failed(before.errs(who, o))
	if want.Err == 0 {
		want = before.answers(who, o, r)
		s.apply(o, r)
	} else {
		wantPockets(t, what, left, s.All[who])
	}
	if r != want {
		t.Fatalf("%s: %v of the thread %d of %v answers %v, not %v", what, o, who, s.C, r, want)
	}
	if o.Kind == 3 && r.Err == 0 && (r.Out == o.A) != before.stays(o.A, o.B) {
		t.Fatalf("%s: %v of %v answers %v, and it stays is not right", what, o, s.C, r)
	}
	if n := len(s.V.Writes()); n > maxWrites || isQuiet(o, r) && n != 4 {
		t.Fatalf("%s: %v of %v answers %v, and puts %v", what, o, s.C, r, s.V.Writes())
	}
	s.All[who] = left
	s.last[who] = [4]uint32{uint32(num), uint32(r.Err), uint32(r.Out), uint32(r.Aux)}
	s.want(t, what)
	return r
}

// P23.3, P23.4: of heaps of each sort each operation by some thread, by chance: behind each one there is a heap that the pockets fit, which holds what it is to hold.
func TestOneOfEach(t *testing.T) {
	for i, s := range stores(t) {
		by := trial.Chance(i)
		blocks := s.Blocks()
		for turn := range 60 {
			who := by.Next(s.C.Threads)
			o := by.Op(s.C, blocks, s.All[who])
			s.copied().do(t, fmt.Sprintf("heap %d, turn %d", i, turn), who, 1+turn, o)
		}
	}
}

// P23.3, P23.4: long rows by chance, of all threads: behind each one there is a heap that the pockets fit, which holds what it is to hold.
func TestLongRows(t *testing.T) {
	for i, s := range stores(t) {
		by := trial.Chance(i)
		for turn := range 200 {
			who := by.Next(s.C.Threads)
			o := by.Op(s.C, s.Blocks(), s.All[who])
			s.do(t, fmt.Sprintf("heap %d, turn %d", i, turn), who, 1+turn, o)
		}
	}
}

// P23.4: blocks of one size are allocated by one thread till ErrRoom is told: then there is no room, whoever of the threads that have none at hand asks; behind all being freed, and the pockets flushed, there is room for as many again.
func TestTillThereIsNoRoom(t *testing.T) {
	for i, s := range stores(t) {
		if s.C.Pages > 40 {
			continue
		}
		by := trial.Chance(i)
		for turn := range 6 {
			size := by.Size(s.C)
			if s.usable(size) == 0 {
				continue
			}
			g, who, what := s.copied(), by.Next(s.C.Threads), fmt.Sprintf("heap %d, turn %d", i, turn)
			l := g.fill(t, what, who, size)
			for _, at := range l {
				g.do(t, what, who, 1, release(at))
			}
			for k := range int64(classes) {
				for g.do(t, what, who, 1, flush(k)).Out > 0 {
				}
			}
			if again := g.fill(t, what, who, size); len(again) < len(l) {
				t.Fatalf("%s: %d blocks of %d, behind %d", what, len(again), size, len(l))
			}
		}
	}
}

// fill allocates blocks of one size by one thread till there is no room, and tells their addresses.
func (s *store) fill(t *testing.T, what string, who int, size int64) []int64 {
	t.Helper()
	var l []int64
	for {
		r := s.do(t, what, who, 2, alloc(size))
		if r.Err != 0 {
			return l
		}
		l = append(l, r.Out)
	}
}
