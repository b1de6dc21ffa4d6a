package model_test

import (
	"math"
	"slices"
	"testing"

	"nacre/api"
	"nacre/audit"
	"nacre/model"
	"nacre/trial"
)

// eight is the configuration of eight pages whose addresses some tests write out: they are from 1024 on, below 9216.
var eight = api.Config{Threads: 1, Pages: 8, Shift: 10}

// Configurations of each sort.
var (
	rights = trial.Rights(eight)
	wrongs = slices.Concat(trial.Wrongs(eight), trial.Pageless(eight), trial.Vast(eight))
)

// Operations, and results, as tests write them.
var (
	alloc     = trial.Alloc
	release   = trial.Release
	realloc   = trial.Realloc
	allocRoot = trial.AllocRoot
	setRoot   = trial.SetRoot
	getRoot   = trial.GetRoot
	usable    = trial.Usable
	stats     = trial.Stats
	flush     = trial.Flush
	done      = trial.Done
	failed    = trial.Failed
)

// first is the address of the first byte of the pages, and end the one behind the last one.
func first(c api.Config) int64 { return 1 << c.Shift }
func end(c api.Config) int64   { return int64(c.Pages+1) << c.Shift }

// holding is a state of these blocks, by turns their addresses and sizes, whose roots name none.
func holding(l ...int64) api.State {
	var s api.State
	for i := 0; i < len(l); i += 2 {
		s.Live = append(s.Live, api.Block{Addr: l[i], Size: l[i+1]})
	}
	return s
}

// naming is the state, of which these roots, by turns with what they have, name something.
func naming(s api.State, l ...int64) api.State {
	for i := 0; i < len(l); i += 2 {
		s.Roots[l[i]] = l[i+1]
	}
	return s
}

// of is the Model of a state that can be.
func of(t *testing.T, c api.Config, s api.State) *model.Model {
	t.Helper()
	m := model.Of(c, s)
	if m == nil {
		t.Fatalf("of %v there is no Model of %v", c, s)
	}
	return m
}

// wantNone asks whether there is no Model of a state.
func wantNone(t *testing.T, c api.Config, s api.State) {
	t.Helper()
	if m := model.Of(c, s); m != nil {
		t.Fatalf("of %v there is a Model of %v: %v", c, s, m.State())
	}
}

// wantState asks whether this is what the Model has.
func wantState(t *testing.T, m *model.Model, s api.State) {
	t.Helper()
	if got := m.State(); !audit.Same(got, s) {
		t.Fatalf("State() = %v, not %v", got, s)
	}
}

// P26.3: the chapter's example.
func TestExample(t *testing.T) {
	m := model.New(eight)
	for _, x := range []struct {
		r   api.Result
		may bool
	}{
		{done(1024, 32), true}, {done(1040, 32), true}, {failed(api.ErrRoom), true}, {done(1024, 20), false},
	} {
		if got := m.Allows(alloc(20), x.r); got != x.may {
			t.Fatalf("Allows(alloc 20, %v) = %v", x.r, got)
		}
	}
}

// P26.2: a new Model has no live blocks, and its roots name none; of what is not right there is none.
func TestNew(t *testing.T) {
	for _, c := range rights {
		m := model.New(c)
		if m == nil {
			t.Fatalf("New(%v) = nil", c)
		}
		wantState(t, m, api.State{})
		wantState(t, of(t, c, api.State{}), api.State{})
	}
	for _, c := range wrongs {
		if model.New(c) != nil {
			t.Fatalf("New(%v) is not nil", c)
		}
		wantNone(t, c, api.State{})
		wantNone(t, c, holding(1024, 32))
	}
}

// P26.2: what no New or Of made has the zero state, and allows nothing.
func TestOfNone(t *testing.T) {
	for _, m := range []*model.Model{nil, {}, new(model.Model)} {
		for kind := range 11 {
			o := api.Op{Kind: kind}
			for e := range api.Errno(13) {
				if m.Allows(o, failed(e)) || m.Apply(o, failed(e)) {
					t.Fatalf("%v may answer %v", o, e)
				}
			}
		}
		if m.Apply(alloc(20), done(1024, 32)) || m.Allows(alloc(20), done(1024, 32)) {
			t.Fatal("a block can be allocated")
		}
		wantState(t, m, api.State{})
	}
}

// P26.2: a block may be a single byte, at either end of the pages, or all their bytes; with one byte beyond an end it can't be.
func TestEndsOfPages(t *testing.T) {
	for _, c := range rights {
		from, to := first(c), end(c)
		for _, b := range [][2]int64{
			{from, 1}, {from, to - from}, {to - 1, 1}, {to - 7, 7}, {from + 1, to - from - 1}, {from + 5, 3},
		} {
			s := holding(b[0], b[1])
			wantState(t, of(t, c, s), s)
		}
		for _, b := range [][2]int64{
			{from - 1, 1}, {from - 1, 2}, {from, to - from + 1}, {to, 1}, {to - 1, 2}, {to + 1, 1}, {from - 1, to}, {0, 1}, {1, 1}, {0, to},
			{-from, from}, {-1, 1}, {-from, 2 * to}, {from + 1<<32, 1}, {math.MinInt64, 1}, {math.MaxInt64, 1},
			{from, math.MaxInt64}, {to - 1, math.MaxInt64}, {math.MaxInt64, math.MaxInt64}, {math.MinInt64, math.MaxInt64}, {from, 1<<32 + 1},
		} {
			wantNone(t, c, holding(b[0], b[1]))
		}
	}
}

// P26.2: a block has a byte at least.
func TestSizesOfNone(t *testing.T) {
	for _, c := range rights {
		for _, size := range []int64{0, -1, -32, -1 << 32, -1<<32 + 1, math.MinInt64, math.MinInt64 + 1} {
			for _, a := range []int64{first(c), first(c) + 64, end(c) - 1, end(c), 0, -1, math.MinInt64, math.MaxInt64} {
				wantNone(t, c, holding(a, size))
				wantNone(t, c, holding(first(c), 16, a, size))
				wantNone(t, c, holding(end(c)-8, 8, a, size))
			}
		}
	}
}

// P26.2: no two blocks have a byte in common: they may be side by side, in whichever order they are told.
func TestBlocksApart(t *testing.T) {
	for _, l := range [][]int64{
		{1024, 32, 1056, 1}, {1056, 1, 1024, 32}, {2000, 7, 1999, 1, 2007, 1}, {9215, 1, 1024, 1, 5000, 4215, 1025, 3975},
	} {
		of(t, eight, holding(l...))
	}
	for _, l := range [][]int64{
		{1024, 32, 1055, 1}, {1055, 1, 1024, 32}, {1024, 32, 1024, 32}, {1024, 32, 1024, 1}, {1024, 1, 1024, 32},
		{1024, 8192, 5000, 1}, {5000, 1, 1024, 8192}, {1100, 10, 1105, 20}, {1105, 20, 1100, 10}, {1040, 32, 1024, 32},
		{9215, 1, 1024, 1, 5000, 4216, 1025, 3975}, {9215, 1, 1024, 1, 5000, 4215, 1025, 3976}, {1024, 2, 2048, 5, 1500, 600},
		{1024, 100, 1030, 5, 1040, 5}, {1024, 100, 1030, 5, 1124, 5},
	} {
		wantNone(t, eight, holding(l...))
	}
}

// P26.2: a root is 0, or the address of a block, which may have several names.
func TestRootsOfStates(t *testing.T) {
	s := holding(1024, 32, 2048, 1000)
	of(t, eight, naming(s, 0, 1024, 3, 2048, 7, 2048))
	of(t, eight, naming(s, 0, 1024, 1, 1024, 2, 1024, 3, 1024, 4, 1024, 5, 1024, 6, 1024, 7, 2048))
	for i := range int64(api.Roots) {
		of(t, eight, naming(s, i, 1024))
		for _, a := range []int64{1, -1, 1023, 1025, 1055, 1056, 2049, 3047, 3048, 9215, 9216, 1<<32 + 1024, -1024, math.MinInt64, math.MaxInt64} {
			wantNone(t, eight, naming(s, i, a))
			wantNone(t, eight, naming(s, i, a, 7-i, 1024))
		}
		wantNone(t, eight, naming(api.State{}, i, 1024))
	}
}

// P26.2: the blocks are told by their addresses, rising, in whichever order they came.
func TestStateRises(t *testing.T) {
	for seed := range 100 {
		by := trial.Chance(seed)
		var s api.State
		for a := first(eight); ; {
			a += int64(by.Next(40))
			b := api.Block{Addr: a, Size: int64(1 + by.Next(by.Pick(3, 90, 900)))}
			if a = b.Addr + b.Size; a > end(eight) {
				break
			}
			s.Live = append(s.Live, b)
		}
		mixed := api.State{Live: slices.Clone(s.Live)}
		for i := range mixed.Live {
			j := by.Next(i + 1)
			mixed.Live[i], mixed.Live[j] = mixed.Live[j], mixed.Live[i]
		}
		for i := range s.Roots {
			s.Roots[i] = s.Live[by.Next(len(s.Live))].Addr * int64(by.Next(2))
		}
		mixed.Roots = s.Roots
		was := slices.Clone(mixed.Live)
		wantState(t, of(t, eight, mixed), s)
		if !slices.Equal(mixed.Live, was) {
			t.Fatalf("what was handed in is %v, not %v", mixed.Live, was)
		}
	}
}

// P26.2: what is handed in, or told, and changed then changes no Model.
func TestNothingIsShared(t *testing.T) {
	s := holding(1024, 32, 2048, 1000)
	m := of(t, eight, s)
	s.Live[0] = api.Block{Addr: 5000, Size: 1}
	told := m.State()
	told.Live[1] = api.Block{Addr: 6000, Size: 1}
	wantState(t, m, holding(1024, 32, 2048, 1000))
	other := of(t, eight, m.State())
	if !other.Apply(release(1024), done(32, 0)) {
		t.Fatal("a block can't be freed")
	}
	wantState(t, m, holding(1024, 32, 2048, 1000))
	wantState(t, other, holding(2048, 1000))
}

// P26.2: a heap that is full of the least blocks has a Model.
func TestManyBlocks(t *testing.T) {
	c := api.Config{Threads: 16, Pages: 1024, Shift: 10}
	var s api.State
	for a := first(c); a < end(c); a += 32 {
		s.Live = append(s.Live, api.Block{Addr: a, Size: 32})
	}
	s.Roots[7] = end(c) - 32
	m := of(t, c, s)
	wantState(t, m, s)
	if !m.Allows(stats(), done(0, 32768)) || m.Allows(alloc(1), done(end(c)-32, 32)) {
		t.Fatal("it is not full")
	}
	slices.Reverse(s.Live)
	m = of(t, c, s)
	slices.Reverse(s.Live)
	wantState(t, m, s)
}
