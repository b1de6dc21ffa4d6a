package model_test

import (
	"math"
	"slices"
	"testing"

	"nacre/api"
	"nacre/model"
	"nacre/trial"
)

// town is a state of eight pages: free are 1056 to 1087, 1152 to 2047, and 4096 to 8191.
func town() api.State {
	return naming(holding(1024, 32, 1088, 64, 2048, 2048, 8192, 1024), 0, 1088, 3, 1088, 7, 2048)
}

// mayOf asks, of each of these results, whether the operation may answer it, of a Model that has that state: and of Apply, whether it tells the same, and does nothing if it may not.
func mayOf(t *testing.T, s api.State, o api.Op, may bool, l ...api.Result) {
	t.Helper()
	for _, r := range l {
		m := of(t, eight, s)
		if got := m.Allows(o, r); got != may {
			t.Fatalf("of %v Allows(%v, %v) = %v", s, o, r, got)
		}
		wantState(t, m, s)
		if got := m.Apply(o, r); got != may {
			t.Fatalf("of %v Apply(%v, %v) = %v", s, o, r, got)
		}
		if !may || r.Err != api.OK {
			wantState(t, m, s)
		}
	}
}

// mayRoom asks whether the operation may answer that there is no room, and no other error, and none of them beside anything else.
func mayRoom(t *testing.T, s api.State, o api.Op) {
	t.Helper()
	mayOf(t, s, o, true, failed(3))
	for e := range api.Errno(15) {
		if e != 0 && e != 3 {
			mayOf(t, s, o, false, failed(e))
		}
	}
	mayOf(t, s, o, false, failed(-1), failed(-3), failed(3+1<<32), failed(1<<32))
	for _, n := range []int64{1, -1, 32, 1056, 4096, math.MinInt64} {
		mayOf(t, s, o, false, api.Result{Err: 3, Out: n}, api.Result{Err: 3, Aux: n}, api.Result{Err: 3, Out: n, Aux: n})
	}
}

// nearly is results that are nearly r, and others.
func nearly(r api.Result) []api.Result {
	l := []api.Result{failed(api.OK)}
	for e := range api.Errno(15) {
		l = append(l, failed(e), api.Result{Err: e, Out: r.Out, Aux: r.Aux})
	}
	for _, e := range []api.Errno{-1, r.Err - 1, r.Err + 1<<32, r.Err + math.MinInt} {
		l = append(l, failed(e), api.Result{Err: e, Out: r.Out, Aux: r.Aux})
	}
	for _, n := range []int64{-1, 1, 2, 16, 32, -32, 1024, -1024, 1 << 32, math.MinInt64, -r.Out, -r.Aux} {
		l = append(l, api.Result{Err: r.Err, Out: r.Out + n, Aux: r.Aux}, api.Result{Err: r.Err, Out: r.Out, Aux: r.Aux + n}, api.Result{Err: r.Err, Out: r.Out + n, Aux: r.Aux + n})
	}
	return slices.DeleteFunc(append(l, api.Result{Err: r.Err, Out: r.Aux, Aux: r.Out}), func(x api.Result) bool { return x == r })
}

// just asks whether the operation may answer that, and nothing else.
func just(t *testing.T, s api.State, o api.Op, r api.Result) {
	t.Helper()
	mayOf(t, s, o, true, r)
	mayOf(t, s, o, false, nearly(r)...)
}

// noSizes are sizes that no block of eight pages has.
var noSizes = []int64{0, -1, -32, 8193, 9216, 1 << 32, 1<<32 + 20, -1<<32 + 20, math.MinInt64, math.MinInt64 + 20, math.MaxInt64}

// noBlocks are addresses at which no block of town begins.
var noBlocks = []int64{0, 1, -1, 1023, 1025, 1040, 1055, 1056, 1087, 1089, 2047, 2049, 4095, 4096, 8191, 9215, 9216, -1024, 1<<32 + 1024, math.MinInt64, math.MinInt64 + 1024, math.MaxInt64}

// P26.3: an operation that is not right just answers ErrArg, also where it would be another error, or without what it does not use would be none.
func TestOfNoOperation(t *testing.T) {
	for _, kind := range []int{0, 10, 11, -1, -9, 256 + 1, 1<<32 + 1, 1<<32 + 8, math.MinInt + 1, math.MaxInt} {
		for _, o := range []api.Op{{Kind: kind}, {Kind: kind, A: 1024}, {Kind: kind, A: 1, B: 20}} {
			just(t, town(), o, failed(1))
		}
	}
	for _, kind := range []int{1, 2, 6, 7, 8, 9} {
		for _, b := range []int64{1, -1, 1024, 1 << 32, math.MinInt64} {
			for _, a := range []int64{0, 1, 20, 1024, -1} {
				just(t, town(), api.Op{Kind: kind, A: a, B: b}, failed(1))
			}
		}
	}
	for _, a := range []int64{1, -1, 1 << 32, math.MinInt64} {
		just(t, town(), api.Op{Kind: 8, A: a}, failed(1))
	}
}

// P26.3: OpAlloc: where there is no such size ErrSize, and nothing else.
func TestAllocOfNoSize(t *testing.T) {
	for _, size := range noSizes {
		just(t, town(), alloc(size), failed(2))
	}
}

// P26.3: OpAlloc: at any address from which on there are so many free bytes, and with as many as Round tells; or there is no room.
func TestAlloc(t *testing.T) {
	for _, x := range []struct {
		size, u int64
		at, not []int64
	}{
		{20, 32, []int64{1056, 1152, 1153, 1600, 2016, 4096, 4097, 8160}, []int64{1024, 1055, 1057, 1023, 1088, 1120, 1151, 2017, 2047, 2048, 4095, 8161, 8192, 9184, 9215, 9216, 0, -32, 1<<32 + 1056, 32, 992}},
		{40, 48, []int64{1152, 2000, 4096, 8144}, []int64{1056, 1040, 1151, 2001, 1008}},
		{500, 512, []int64{1152, 1536, 4096, 7680}, []int64{1056, 1151, 1537, 7681, 3800}},
		{1024, 1024, []int64{4096, 5000, 7168}, []int64{1056, 1152, 7169, 3072, 8192, 9215, 9216, math.MaxInt64, math.MinInt64, -1024, math.MaxInt64 - 1023}},
		{4096, 4096, []int64{4096}, []int64{4095, 4097, 1024, 5120}},
		{4097, 5120, nil, []int64{4096, 3072, 1024, 5120, 4097}},
		{8192, 8192, nil, []int64{1024, 4096, 0}},
	} {
		o := alloc(x.size)
		mayRoom(t, town(), o)
		for _, a := range x.at {
			mayOf(t, town(), o, true, done(a, x.u))
			for _, u := range []int64{x.size - 1, x.u + 1, x.u - 1, 2 * x.u, 0, -x.u, 1<<32 + x.u, math.MinInt64} {
				mayOf(t, town(), o, false, done(a, u))
			}
		}
		for _, a := range x.not {
			mayOf(t, town(), o, false, done(a, x.u))
		}
	}
}

// P26.3: OpAlloc: all pages, where nothing is live; and none where all is, to the last byte.
func TestAllocAllAndNone(t *testing.T) {
	mayOf(t, api.State{}, alloc(8192), true, done(1024, 8192), failed(3))
	mayOf(t, api.State{}, alloc(8192), false, done(1023, 8192), done(1025, 8192), done(0, 8192), done(2048, 8192))
	full := holding(1024, 8192)
	mayRoom(t, full, alloc(1))
	for _, a := range []int64{1024, 1023, 992, 5000, 9184, 9216, 0} {
		mayOf(t, full, alloc(1), false, done(a, 32))
	}
	// A single byte is live, so of the bytes beside it none is touched that is not free.
	one := holding(5000, 1)
	mayOf(t, one, alloc(1), true, done(4968, 32), done(5001, 32))
	mayOf(t, one, alloc(1), false, done(4969, 32), done(5000, 32), done(4999, 32))
}

// P26.4: OpAlloc: the block is live.
func TestApplyAlloc(t *testing.T) {
	m := of(t, eight, town())
	for _, x := range []struct {
		o api.Op
		r api.Result
	}{
		{alloc(20), done(1056, 32)}, {alloc(3000), done(5120, 3072)}, {alloc(1), failed(3)}, {alloc(513), done(4096, 1024)},
	} {
		if !m.Apply(x.o, x.r) || m.Apply(x.o, x.r) != (x.r.Err != 0) {
			t.Fatalf("Apply(%v, %v) is not right", x.o, x.r)
		}
	}
	s := holding(1024, 32, 1056, 32, 1088, 64, 2048, 2048, 4096, 1024, 5120, 3072, 8192, 1024)
	s.Roots = town().Roots
	wantState(t, m, s)
}

// P26.3, P26.4: OpFree: where no block begins ErrAddr, of one that a root names ErrHeld, else its size, and the block is live no more.
func TestFree(t *testing.T) {
	for _, a := range noBlocks {
		just(t, town(), release(a), failed(4))
	}
	for _, a := range []int64{1088, 2048} {
		just(t, town(), release(a), failed(6))
	}
	just(t, town(), release(1024), done(32, 0))
	just(t, town(), release(8192), done(1024, 0))
	m := of(t, eight, town())
	if !m.Apply(release(8192), done(1024, 0)) {
		t.Fatal("8192 can't be freed")
	}
	s := holding(1024, 32, 1088, 64, 2048, 2048)
	s.Roots = town().Roots
	wantState(t, m, s)
	just(t, s, release(8192), failed(4))
	for i := range int64(api.Roots) {
		just(t, naming(holding(1024, 32), i, 1024), release(1024), failed(6))
	}
}

// P26.3: OpRealloc: where no block begins ErrAddr, whatever the size; else where there is no such size ErrSize.
func TestReallocOfNone(t *testing.T) {
	for _, a := range noBlocks {
		for _, size := range append(noSizes, 20, 8192) {
			just(t, town(), realloc(a, size), failed(4))
		}
	}
	for _, a := range []int64{1024, 1088, 8192} {
		for _, size := range noSizes {
			just(t, town(), realloc(a, size), failed(2))
		}
	}
}

// P26.3: OpRealloc: the block may stay, if what it is to have is free, or its own; or move to where that is free, so not onto its own bytes; or there is no room.
func TestRealloc(t *testing.T) {
	for _, x := range []struct {
		a, size, u int64
		at, not    []int64
	}{
		{1024, 20, 32, []int64{1024, 1056, 1152, 8160}, []int64{1025, 1040, 1055, 1057, 1088, 992, 1023, 9216}},
		{1024, 64, 64, []int64{1024, 1152, 4096}, []int64{1025, 1056, 1040, 1120}},
		{1024, 65, 96, []int64{1152, 1952, 4096}, []int64{1024, 1056, 1953}},
		{1088, 64, 64, []int64{1088, 1152, 1984}, []int64{1087, 1089, 1056, 1985, 1151}},
		{1088, 30, 32, []int64{1088, 1056, 1152}, []int64{1104, 1120, 1087, 1057}},
		{1088, 513, 1024, []int64{4096, 7168}, []int64{1088, 1152, 7169}},
		{1088, 512, 512, []int64{1088, 1152, 4096}, []int64{1087, 1089}},
		{2048, 6144, 6144, []int64{2048}, []int64{4096, 3072, 2047, 2049}},
		{2048, 6145, 7168, nil, []int64{2048, 1024, 1088}},
		{2048, 1024, 1024, []int64{2048, 4096, 5000}, []int64{3072, 2049, 3000, 2047, 1152, 4095}},
		{8192, 1025, 2048, []int64{4096, 6144}, []int64{8192, 7168, 7167, 6145}},
		{8192, 1024, 1024, []int64{8192, 7168}, []int64{8191, 8193, 7169, 9216}},
	} {
		o := realloc(x.a, x.size)
		mayRoom(t, town(), o)
		for _, a := range x.at {
			mayOf(t, town(), o, true, done(a, x.u))
			for _, u := range []int64{x.size - 1, x.u + 1, x.u - 1, 2 * x.u, 0, -x.u, 1<<32 + x.u, math.MinInt64} {
				mayOf(t, town(), o, false, done(a, u))
			}
		}
		for _, a := range append(x.not, 0, -1, 1<<32+x.a, math.MinInt64, math.MaxInt64, 2048+1024*7, -x.a) {
			mayOf(t, town(), o, false, done(a, x.u))
		}
	}
}

// P26.4: OpRealloc: the block is live where it is told, and there alone, and all roots that named it follow; others stay.
func TestApplyRealloc(t *testing.T) {
	for _, x := range []struct {
		o api.Op
		r api.Result
		s api.State
	}{
		{realloc(1088, 30), done(1088, 32), naming(holding(1024, 32, 1088, 32, 2048, 2048, 8192, 1024), 0, 1088, 3, 1088, 7, 2048)},
		{realloc(1088, 30), done(1056, 32), naming(holding(1024, 32, 1056, 32, 2048, 2048, 8192, 1024), 0, 1056, 3, 1056, 7, 2048)},
		{realloc(1088, 3000), done(4096, 3072), naming(holding(1024, 32, 2048, 2048, 4096, 3072, 8192, 1024), 0, 4096, 3, 4096, 7, 2048)},
		{realloc(2048, 6000), done(2048, 6144), naming(holding(1024, 32, 1088, 64, 2048, 6144, 8192, 1024), 0, 1088, 3, 1088, 7, 2048)},
		{realloc(2048, 10), done(1056, 32), naming(holding(1024, 32, 1056, 32, 1088, 64, 8192, 1024), 0, 1088, 3, 1088, 7, 1056)},
		{realloc(8192, 40), done(2000, 48), naming(holding(1024, 32, 1088, 64, 2000, 48, 2048, 2048), 0, 1088, 3, 1088, 7, 2048)},
		{realloc(1024, 60), done(1024, 64), naming(holding(1024, 64, 1088, 64, 2048, 2048, 8192, 1024), 0, 1088, 3, 1088, 7, 2048)},
		{realloc(1024, 60), failed(3), town()},
		{realloc(1025, 60), failed(4), town()},
		{realloc(1024, 0), failed(2), town()},
	} {
		m := of(t, eight, town())
		if !m.Apply(x.o, x.r) {
			t.Fatalf("Apply(%v, %v) = false", x.o, x.r)
		}
		wantState(t, m, x.s)
	}
}

// P26.3: OpAllocRoot: where there is no such root ErrRoot, whatever the size; else where there is no such size ErrSize.
func TestAllocRootOfNone(t *testing.T) {
	for _, i := range trial.NoRoots() {
		for _, size := range append(noSizes, 20, 8192) {
			just(t, town(), allocRoot(i, size), failed(5))
		}
	}
	for i := range int64(api.Roots) {
		for _, size := range noSizes {
			just(t, town(), allocRoot(i, size), failed(2))
		}
	}
}

// P26.3, P26.4: OpAllocRoot: at any address from which on there are as many free bytes as Round tells, and what the root is; the block is live, and the root is it; what it was stays live.
func TestAllocRoot(t *testing.T) {
	for i := range int64(api.Roots) {
		was := town().Roots[i]
		mayRoom(t, town(), allocRoot(i, 20))
		for _, x := range []struct{ size, u, at int64 }{
			{20, 32, 1056}, {32, 32, 8160}, {40, 48, 1152}, {3000, 3072, 4096}, {3000, 3072, 5120}, {4096, 4096, 4096},
		} {
			o, r := allocRoot(i, x.size), done(x.at, was)
			mayOf(t, town(), o, true, r)
			mayOf(t, town(), o, false, done(x.at, was+1), done(x.at, x.u), done(x.at, x.at), done(x.at, was+1<<32), done(x.at, -1), done(x.at, 1024))
			m := of(t, eight, town())
			if !m.Apply(o, r) || m.Apply(o, r) {
				t.Fatalf("Apply(%v, %v) is not right", o, r)
			}
			s := town()
			s.Live = append(s.Live, api.Block{Addr: x.at, Size: x.u})
			s.Roots[i] = x.at
			wantState(t, m, of(t, eight, s).State())
		}
		for _, a := range []int64{0, 1024, 1025, 1055, 1057, 1087, 1088, 2017, 2048, 4095, 8161, 9215, 9216, -1, 1<<32 + 1056} {
			mayOf(t, town(), allocRoot(i, 20), false, done(a, was))
		}
		mayOf(t, town(), allocRoot(i, 40), false, done(1056, was))
		mayOf(t, town(), allocRoot(i, 5000), false, done(4096, was), done(1024, was))
	}
}

// P26.3, P26.4: OpSetRoot: where there is no such root ErrRoot, where no block begins ErrAddr, but of 0, which names none; else that, and what the root is, which is that then.
func TestSetRoot(t *testing.T) {
	for _, i := range trial.NoRoots() {
		for _, a := range append(noBlocks, 1024) {
			just(t, town(), setRoot(i, a), failed(5))
		}
	}
	for i := range int64(api.Roots) {
		for _, a := range noBlocks {
			if a != 0 {
				just(t, town(), setRoot(i, a), failed(4))
			}
		}
		for _, a := range []int64{0, 1024, 1088, 2048, 8192} {
			o, r := setRoot(i, a), done(a, town().Roots[i])
			just(t, town(), o, r)
			m := of(t, eight, town())
			m.Apply(o, r)
			wantState(t, m, naming(town(), i, a))
		}
	}
	just(t, api.State{}, setRoot(2, 0), done(0, 0))
	just(t, api.State{}, setRoot(2, 1024), failed(4))
}

// wantStill asks whether the operation may answer just that, and the Model has what it had behind it.
func wantStill(t *testing.T, o api.Op, r api.Result) {
	t.Helper()
	just(t, town(), o, r)
	m := of(t, eight, town())
	if !m.Apply(o, r) {
		t.Fatalf("Apply(%v, %v) = false", o, r)
	}
	wantState(t, m, town())
}

// P26.3, P26.4: OpGetRoot: where there is no such root ErrRoot, else what it is.
func TestGetRoot(t *testing.T) {
	for _, i := range trial.NoRoots() {
		wantStill(t, getRoot(i), failed(5))
	}
	for i, a := range town().Roots {
		wantStill(t, getRoot(int64(i)), done(a, 0))
	}
}

// P26.3, P26.4: OpUsable: where no block begins ErrAddr, else its size, whether a root names it or not.
func TestUsable(t *testing.T) {
	for _, a := range noBlocks {
		wantStill(t, usable(a), failed(4))
	}
	for _, b := range town().Live {
		wantStill(t, usable(b.Addr), done(b.Size, 0))
	}
}

// P26.3, P26.4: OpStats: from no page to all of them, and how many blocks are live.
func TestStats(t *testing.T) {
	for _, c := range rights {
		n := int64(c.Pages)
		for _, s := range []api.State{{}, holding(first(c), 7), holding(first(c), 7, end(c)-1, 1, first(c)+100, 1)} {
			m, live := of(t, c, s), int64(len(s.Live))
			for free := range n + 1 {
				if !m.Allows(stats(), done(free, live)) || !m.Apply(stats(), done(free, live)) {
					t.Fatalf("of %v %d pages can't be free", c, free)
				}
			}
			for _, r := range []api.Result{
				done(-1, live), done(n+1, live), done(n<<c.Shift, live), done(1<<32, live), done(1<<32+1, live), done(math.MinInt64, live), done(math.MaxInt64, live),
				done(0, live+1), done(0, live-1), done(n, live+1), done(0, -live-1), done(1, live+1<<32), {Err: 1, Aux: live}, failed(1), failed(3), {Err: 3, Out: n, Aux: live},
			} {
				if m.Allows(stats(), r) || m.Apply(stats(), r) {
					t.Fatalf("of %v %v may be answered", c, r)
				}
			}
			wantState(t, m, of(t, c, s).State())
		}
	}
	if m := model.New(eight); !m.Apply(alloc(1), done(1024, 32)) || !m.Apply(stats(), done(8, 1)) || m.Apply(stats(), done(8, 0)) {
		t.Fatal("a block that was allocated does not count")
	}
}

// P26.3, P26.4: OpFlush: where there is no such class ErrClass, else from none to as many as a pocket has room for.
func TestFlush(t *testing.T) {
	for _, k := range []int64{-1, -9, 9, 10, 256, 1 << 32, 1<<32 + 1, math.MinInt64, math.MinInt64 + 1, math.MaxInt64} {
		wantStill(t, flush(k), failed(7))
	}
	for k := range int64(9) {
		mayOf(t, town(), flush(k), true, done(0, 0), done(1, 0), done(2, 0), done(3, 0), done(4, 0))
		mayOf(t, town(), flush(k), false, done(5, 0), done(-1, 0), done(1<<32, 0), done(1<<32+1, 0), done(math.MinInt64, 0), done(32, 0))
		for e := range api.Errno(14) {
			mayOf(t, town(), flush(k), false, done(1, 1), done(0, -1), done(4, 4), done(0, 1<<32), api.Result{Err: e + 1, Out: 1}, failed(e+1))
		}
		m := of(t, eight, town())
		m.Apply(flush(k), done(4, 0))
		wantState(t, m, town())
	}
}
