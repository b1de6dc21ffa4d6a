package heap_test

import (
	"math"
	"slices"
	"testing"

	"nacre/api"
	"nacre/heap"
	"nacre/pocket"
	"nacre/trial"
	"nacre/view"
)

// eight is the configuration of eight pages whose cells some tests write out: Info of the page p is the cell 34 and 6 times p, Foot, Next, Prev, Slots and Taken the five behind it; the four of the thread are 30 to 33, Root(i) is the cell 22 and i, Rack(k) 13 and k, Bin(k) 2 and k, Live 1, Free 0. The page p has the addresses from 1024 times p + 1 on.
var eight = api.Config{Threads: 1, Pages: 8, Shift: 10}

// Configurations of each sort.
var (
	rights = trial.Rights(eight)
	wrongs = slices.Concat(trial.Wrongs(eight), trial.Pageless(eight), trial.Vast(eight))
)

// The greatest number of an operation, and how many classes, and roots, there are, as the document has them.
const (
	maxNum  = 1<<31 - 1
	classes = 9
	roots   = 8
)

// What heaps are laid of.
var (
	free = trial.Free
	used = trial.Used
	of   = trial.Slab
)

// laid is the values of a heap of eight pages.
func laid(pieces ...trial.Piece) []uint32 { return trial.Lay(eight, pieces...).Vals }

// named is the values of a heap of eight pages, of which some roots, by turns with what they have, name something.
func named(vals []uint32, l ...int) []uint32 {
	for i := 0; i < len(l); i += 2 {
		vals[22+l[i]] = uint32(l[i+1])
	}
	return vals
}

// Operations, and results, as tests write them.
var (
	alloc     = trial.Alloc
	release   = trial.Release
	realloc   = trial.Realloc
	allocRoot = trial.AllocRoot
	setRoot   = trial.SetRoot
	getRoot   = trial.GetRoot
	usable    = trial.Usable
	stats     = trial.Stats
	flush     = trial.Flush
	done      = trial.Done
	failed    = trial.Failed
)

// empty is Pockets in which nothing stands.
var empty api.Pockets

// with is the Pockets, whose pocket k has these addresses instead.
func with(p api.Pockets, k int, l ...int64) api.Pockets {
	p[k] = l
	return p
}

// one is Pockets of which one pocket alone has something.
func one(k int, l ...int64) api.Pockets { return with(empty, k, l...) }

// wantPockets asks whether the Pockets are as they are to be.
func wantPockets(t *testing.T, what string, got, want api.Pockets) {
	t.Helper()
	if !pocket.Same(got, want) {
		t.Fatalf("%s: the Pockets are %v, not %v", what, got, want)
	}
}

// call is a call of Do, but for the View.
type call struct {
	c      api.Config
	t, num int
	p      api.Pockets
	o      api.Op
}

// wantDo asks whether Do tells this result, and leaves these Pockets, and those that were handed in as they are.
func (x call) wantDo(t *testing.T, v *view.View, r api.Result, left api.Pockets) {
	t.Helper()
	was := trial.CopyPockets(x.p)
	got, q := heap.Do(v, x.c, x.t, x.num, x.p, x.o)
	if got != r {
		t.Fatalf("Do(%v, %d, %d, %v, %v) = %v, not %v", x.c, x.t, x.num, x.p, x.o, got, r)
	}
	wantPockets(t, "left", q, left)
	wantPockets(t, "handed in", x.p, was)
}

// deed is an operation on a heap of eight pages: what it answers, which Pockets it leaves, which cells it reads, and which it puts, by turns with their values, ahead of the thread's four.
type deed struct {
	vals   []uint32
	p      api.Pockets
	o      api.Op
	r      api.Result
	left   api.Pockets
	reads  []int
	writes []int
}

// want asks whether it is so; the thread's four cells are to be put behind all else.
func (x deed) want(t *testing.T) {
	t.Helper()
	v := view.Whole(x.vals)
	call{eight, 0, 7, x.p, x.o}.wantDo(t, v, x.r, x.left)
	four := []int{30, 7, 31, int(x.r.Err), 32, int(x.r.Out), 33, int(x.r.Aux)}
	trial.WantCells(t, v, x.reads, slices.Concat(x.writes, four)...)
}

// row does operations on one View, one behind the other, as a thread does them, and asks whether each one answers what it is to answer.
type row struct {
	t    *testing.T
	v    *view.View
	c    api.Config
	who  int
	p    api.Pockets
	nums int
}

func (x *row) do(o api.Op, r api.Result) {
	x.t.Helper()
	x.nums++
	got, q := heap.Do(x.v, x.c, x.who, x.nums, x.p, o)
	if got != r {
		x.t.Fatalf("%d: Do(%v) = %v, not %v", x.nums, o, got, r)
	}
	x.p = q
}

// P23.1 to P23.3: the chapter's example.
func TestExample(t *testing.T) {
	x := row{t: t, v: view.Whole(laid(free(8))), c: eight}
	x.do(allocRoot(0, 3000), done(1024, 0))
	x.do(release(1024), failed(api.ErrHeld))
	x.do(realloc(1024, 5000), done(1024, 5120))
	x.do(realloc(1024, 10), done(6144, 32))
	x.do(getRoot(0), done(6144, 0))
	wantPockets(t, "left", x.p, one(0, 6240, 6208, 6176))
}

// P23.1 to P23.3: the document's examples of the whole, as far as they are operations, one behind the other.
func TestExamplesOfTheWhole(t *testing.T) {
	c := api.Config{Threads: 2, Pages: 8, Shift: 10}
	x := row{t: t, v: view.Whole(trial.Lay(c, free(8)).Vals), c: c}
	x.do(alloc(100), done(1024, 128))
	x.do(alloc(100), done(1152, 128))
	x.do(alloc(3000), done(2048, 3072))
	x.do(allocRoot(2, 40), done(5120, 0))
	x.do(release(5120), failed(6))
	x.do(alloc(0), failed(2))
	x.do(release(1025), failed(4))
	x.do(setRoot(8, 0), failed(5))
	x.do(flush(9), failed(7))
	if num, err := x.v.Get(30), x.v.Get(31); num != 9 || err != 7 {
		t.Fatalf("the cells of the thread 0 are %d, %d", num, err)
	}
}

// P23.1: of no thread of the heap ErrArg is told, and nothing is read or put; the Pockets are what they were.
func TestOfNoThread(t *testing.T) {
	p := one(3, 1024)
	for _, c := range rights {
		vals := trial.Lay(c, free(c.Pages)).Vals
		for _, who := range []int{-1, c.Threads, c.Threads + 1, 16, 256, 1 << 32, 1 << 62, -1 << 32, math.MinInt, math.MaxInt} {
			for _, o := range []api.Op{alloc(1), stats(), getRoot(0), release(7)} {
				v := view.Whole(vals)
				call{c, who, 1, p, o}.wantDo(t, v, failed(1), p)
				trial.WantCells(t, v, nil)
			}
		}
	}
}

// P23.1: of a number that no operation has ErrArg is told, and nothing is read or put.
func TestOfNoNumber(t *testing.T) {
	p := one(3, 1024)
	vals := laid(free(8))
	for _, num := range []int{0, -1, -maxNum, maxNum + 1, maxNum + 2, 1 << 32, 1<<32 + 1, 1<<62 + 1, math.MinInt, math.MinInt + 1, math.MaxInt} {
		for _, o := range []api.Op{alloc(1), stats(), getRoot(0), release(7)} {
			v := view.Whole(vals)
			call{eight, 0, num, p, o}.wantDo(t, v, failed(1), p)
			trial.WantCells(t, v, nil)
		}
	}
}

// P23.1: of an operation that is not right ErrArg is told, and nothing is read or put: also where the operation would be another error, or without what it does not use would be one.
func TestOfNoOperation(t *testing.T) {
	p := one(3, 1024)
	vals := named(laid(used(2), free(6)), 0, 1024)
	var l []api.Op
	for _, kind := range []int{0, 10, 11, -1, -9, 256 + 1, 1<<32 + 1, 1<<32 + 8, math.MinInt + 1, math.MaxInt} {
		l = append(l, api.Op{Kind: kind}, api.Op{Kind: kind, A: 1024, B: 1}, api.Op{Kind: kind, A: 1})
	}
	for _, kind := range []int{1, 2, 6, 7, 8, 9} {
		for _, b := range []int64{1, -1, 1024, 1 << 32, math.MinInt64} {
			l = append(l, api.Op{Kind: kind, A: 1024, B: b}, api.Op{Kind: kind, A: -1, B: b}, api.Op{Kind: kind, B: b})
		}
	}
	for _, a := range []int64{1, -1, 1 << 32, math.MinInt64} {
		l = append(l, api.Op{Kind: 8, A: a})
	}
	for _, o := range l {
		v := view.Whole(vals)
		call{eight, 0, 1, p, o}.wantDo(t, v, failed(1), p)
		trial.WantCells(t, v, nil)
	}
}

// P23.1: the four cells of the thread, and of no other one, are put behind all else: the number, at both ends, the error, Out and Aux.
func TestNumberAndResult(t *testing.T) {
	for _, c := range rights {
		vals := trial.Lay(c, used(1), free(c.Pages-1)).Vals
		pages := uint32(c.Pages)
		for who := range c.Threads {
			for _, num := range []int{1, 2, 1 << 16, maxNum - 1, maxNum} {
				at := 30 + 4*who
				v := view.Whole(vals)
				call{c, who, num, empty, stats()}.wantDo(t, v, done(int64(pages)-1, 1), empty)
				trial.WantCells(t, v, []int{0, 1}, at, num, at+1, 0, at+2, c.Pages-1, at+3, 1)
				v = view.Whole(vals)
				call{c, who, num, empty, getRoot(8)}.wantDo(t, v, failed(5), empty)
				trial.WantCells(t, v, nil, at, num, at+1, 5, at+2, 0, at+3, 0)
			}
		}
	}
}

// P23.1: what stood in the thread's cells is not read, whatever it was; an operation may have the number of the one ahead of it, or a lower one.
func TestNumbersAgain(t *testing.T) {
	v := view.Whole(laid(free(8)))
	for _, num := range []int{5, 5, 3, maxNum, 1} {
		call{eight, 0, num, empty, setRoot(2, 0)}.wantDo(t, v, done(0, 0), empty)
		trial.WantCells(t, v, []int{24}, 24, 0, 30, num, 31, 0, 32, 0, 33, 0)
	}
}
