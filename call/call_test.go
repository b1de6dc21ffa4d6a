package call_test

import (
	"math"
	"slices"
	"testing"

	"nacre/api"
	"nacre/call"
	"nacre/fresh"
	"nacre/trial"
)

// two is the configuration whose words some tests write out: it has 86 cells, the words 16 to 101; of its thread 0 the calls begin at the words 104 and 112, and what it did last is the words 46 to 49; of the thread 1 these are 224, 232, and 50 to 53; the calls of the mending begin at 344 and 352; there are 464 words.
var two = api.Config{Threads: 2, Pages: 8, Shift: 10}

// Configurations of each sort.
var (
	rights = trial.Rights(two)
	wrongs = slices.Concat(trial.Wrongs(two), trial.Pageless(two), trial.Vast(two))
)

// maxNum is the greatest number, as the document has it.
const maxNum = 1<<31 - 1

// numbers are words that are numbers of calls, and noNumbers such that are none, also those of which the low bits are one's.
var (
	numbers   = []uint64{1, 2, 5, 6, 256, 1<<16 + 5, 1 << 30, maxNum - 1, maxNum}
	noNumbers = []uint64{0, 1 << 31, 1<<31 + 5, 1<<32 - 1, 1 << 32, 1<<32 + 5, 1 << 48, 1 << 63, 1<<63 + 5, trial.Junk}
	words     = slices.Concat(numbers, noNumbers)
)

// farNums are numbers of no call, also those of which the low bits are one's.
var farNums = []int{
	0, -1, -5, -maxNum, math.MinInt32, -1 << 32, -1<<32 + 5, math.MinInt + 5, math.MinInt,
	maxNum + 1, maxNum + 6, 1<<32 - 1, 1 << 32, 1<<32 + 5, 1 << 62, math.MaxInt - 1, math.MaxInt,
}

// ops are right operations of each Kind.
var ops = []api.Op{
	trial.Alloc(100), trial.Release(1024), trial.Realloc(1024, 50), trial.AllocRoot(7, 3000), trial.SetRoot(2, 4096), trial.GetRoot(3), trial.Usable(2048), trial.Stats(), trial.Flush(9),
	trial.Alloc(0), trial.Release(-1), trial.Realloc(math.MinInt64, math.MaxInt64), trial.AllocRoot(-1<<32, 1<<32), trial.SetRoot(2, 0), trial.GetRoot(math.MinInt64), trial.Flush(0),
}

// wrongOps are operations that are not right.
var wrongOps = []api.Op{
	{}, {Kind: -1}, {Kind: 10}, {Kind: 10, A: 1}, {Kind: 1<<32 + 8}, {Kind: math.MinInt}, {Kind: math.MaxInt}, {A: 100}, {B: 1},
	{Kind: api.OpAlloc, A: 100, B: 1}, {Kind: api.OpFree, A: 1024, B: -1}, {Kind: api.OpGetRoot, B: 1 << 32}, {Kind: api.OpUsable, A: 5, B: 5}, {Kind: api.OpFlush, B: math.MinInt64},
	{Kind: api.OpStats, A: 1}, {Kind: api.OpStats, B: 1}, {Kind: api.OpStats, A: 1 << 32}, {Kind: api.OpStats, A: -1, B: -1},
}

// wordsOf are the words of a call.
func wordsOf(num uint64, o api.Op) []uint64 {
	return []uint64{num, uint64(o.Kind), uint64(o.A), uint64(o.B)}
}

// wantLast asks whether this is the number of the last call, and which one it is.
func wantLast(t *testing.T, m trial.Memory, u, num, b int) {
	t.Helper()
	if n, at, ok := call.Last(m.Config, m.W, u); !ok || n != num || at != b {
		t.Fatalf("Last of %d of %v = %d, %d, %t, not %d, %d", u, m.Config, n, at, ok, num, b)
	}
}

// wantSaid asks whether this operation was announced with that number.
func wantSaid(t *testing.T, m trial.Memory, u, num int, o api.Op) {
	t.Helper()
	if got, ok := call.Said(m.Config, m.W, u, num); !ok || got != o {
		t.Fatalf("Said of %d of %d of %v = %v, %t, not %v", num, u, m.Config, got, ok, o)
	}
}

// wantNotSaid asks whether no operation is told of that number.
func wantNotSaid(t *testing.T, c api.Config, w []uint64, u, num int) {
	t.Helper()
	if got, ok := call.Said(c, w, u, num); ok || got != (api.Op{}) {
		t.Fatalf("Said of %d of %d of %v = %v, %t", num, u, c, got, ok)
	}
}

// wantLaid asks whether the words are laid, with this call as it is to be, and all else as it was; it is the memory of these words.
func wantLaid(t *testing.T, m trial.Memory, u, num, b int, o api.Op) trial.Memory {
	t.Helper()
	was, want := m.Copied(), m.Copied()
	want.Call(u, b, wordsOf(uint64(num), o)...)
	got, ok := call.Lay(m.Config, m.W, u, num, o)
	if !ok || !slices.Equal(got, want.W) {
		t.Fatalf("with the call %d of %d of %v laid, %d, %v, the words are %x, %t, not %x", b, u, m.Config, num, o, got, ok, want.W)
	}
	if !slices.Equal(m.W, was.W) {
		t.Fatalf("the words of %v that were handed in are changed", m.Config)
	}
	return want
}

// wantNotLaid asks whether nothing is laid.
func wantNotLaid(t *testing.T, c api.Config, w []uint64, u, num int, o api.Op) {
	t.Helper()
	if got, ok := call.Lay(c, w, u, num, o); ok || got != nil {
		t.Fatalf("%d, %v is laid for %d of %v", num, o, u, c)
	}
}

// wantAnswer asks what became of an operation.
func wantAnswer(t *testing.T, what string, m trial.Memory, u, num int, a api.Answer) {
	t.Helper()
	if got := call.Resolve(m.Config, m.W, u, num); got != a {
		t.Fatalf("%s: Resolve of %d of %d of %v = %v, not %v", what, num, u, m.Config, got, a)
	}
}

// The answers that there are.
var unknown = api.Answer{}

func not(o api.Op) api.Answer { return api.Answer{Kind: api.AnNot, Op: o} }
func did(o api.Op, r api.Result) api.Answer {
	return api.Answer{Kind: api.AnDone, Op: o, Res: r}
}

// P28.1 to P28.3: the chapter's example.
func TestExample(t *testing.T) {
	for _, c := range rights {
		for u := range c.Threads {
			m := trial.Memory{Config: c, W: fresh.Words(c)}
			wantLast(t, m, u, 0, 1)
			wantAnswer(t, "fresh", m, u, 0, unknown)
			wantNotSaid(t, c, m.W, u, 0)
			m = wantLaid(t, m, u, 5, 0, trial.Stats())
			wantLast(t, m, u, 5, 0)
			wantAnswer(t, "laid", m, u, 5, not(trial.Stats()))
			wantAnswer(t, "laid", m, u, 4, unknown)
		}
	}
}

// wantNothing asks whether all tell nothing of these words and that thread, whichever number is meant.
func wantNothing(t *testing.T, c api.Config, w []uint64, u int) {
	t.Helper()
	if n, b, ok := call.Last(c, w, u); ok || n != 0 || b != 0 {
		t.Fatalf("Last of %d of %d words of %v = %d, %d, %t", u, len(w), c, n, b, ok)
	}
	for _, num := range []int{0, 1, 5, 7, 8, maxNum, -1, maxNum + 1, math.MaxInt} {
		wantNotSaid(t, c, w, u, num)
		wantNotLaid(t, c, w, u, num, trial.Stats())
		if a := call.Resolve(c, w, u, num); a != unknown {
			t.Fatalf("Resolve of %d of %d of %d words of %v = %v", num, u, len(w), c, a)
		}
	}
}

// called is a fresh heap's memory in which all makers, also the mending, have announced 5 and 7, and have done 7.
func called(c api.Config) trial.Memory {
	m := trial.Memory{Config: c, W: fresh.Words(c)}
	for u := range c.Threads + 1 {
		m.Call(u, 0, wordsOf(5, trial.Stats())...)
		m.Call(u, 1, wordsOf(7, trial.Alloc(9))...)
	}
	for u := range c.Threads {
		m.Cell(30+4*u, 0, 7)
	}
	return m
}

// P28.1 to P28.3: of what is no thread of c nothing is told, and nothing laid: neither of the mending, which has calls, too.
func TestNoThread(t *testing.T) {
	for _, c := range rights {
		m := called(c)
		wantAnswer(t, "called", m, c.Threads-1, 7, did(trial.Alloc(9), api.Result{}))
		for _, u := range []int{
			c.Threads, c.Threads + 1, c.Threads + 2, 17, 18, 1 << 8, 1 << 16, 1 << 31, 1 << 32, 1<<32 + 1, 1 << 61, math.MaxInt,
			-1, -2, -c.Threads, -17, math.MinInt32, -1 << 32, math.MinInt,
		} {
			wantNothing(t, c, m.W, u)
		}
	}
}

// P28.1 to P28.3: of as many words as the configuration does not have nothing is told, and nothing laid.
func TestOtherNumbersOfWords(t *testing.T) {
	for i, c := range rights {
		w := called(c).W
		long := slices.Concat(w, make([]uint64, 200))
		for _, u := range []int{0, c.Threads - 1, c.Threads, -1} {
			for _, n := range []int{0, 1, 8, 16, 16 + trial.Cells(c), trial.CallAt(c, u, 0), trial.CallAt(c, u, 1), trial.CallAt(c, c.Threads, 0), len(w) - 120, len(w) - 8, len(w) - 1, len(w) + 1, len(w) + 8, len(w) + 120} {
				wantNothing(t, c, long[:max(n, 0)], u)
			}
			wantNothing(t, c, nil, u)
			wantNothing(t, c, called(rights[(i+1)%len(rights)]).W, u)
		}
	}
}

// P28.1 to P28.3: of configurations that are not right nothing is told, and nothing laid, also of as many words as one with such numbers would have, and of those of right ones.
func TestWrongConfigurations(t *testing.T) {
	for _, c := range wrongs {
		lists := [][]uint64{nil, {}, make([]uint64, 9), called(two).W, called(rights[0]).W}
		if c.Pages <= 1<<14 && c.Pages > 0 && c.Threads >= 0 {
			m := trial.Blank(c, 1, 0)
			for u := range c.Threads + 1 {
				m.Call(u, 0, wordsOf(5, trial.Stats())...)
				m.Call(u, 1, wordsOf(7, trial.Alloc(9))...)
			}
			lists = append(lists, m.W)
		}
		for _, w := range lists {
			for _, u := range []int{-1, 0, 1, 2, 15, 16, c.Threads - 1, c.Threads} {
				wantNothing(t, c, w, u)
			}
		}
	}
}

// P28.1 to P28.3: what was told is nobody else's: who changes it changes neither what was handed in nor what is told next.
func TestToldAnew(t *testing.T) {
	m := called(two)
	was := m.Copied()
	for range 2 {
		laid, ok := call.Lay(two, m.W, 1, 8, trial.Stats())
		if !ok {
			t.Fatal("nothing is laid")
		}
		for i := range laid {
			laid[i]++
		}
		wantLast(t, m, 1, 7, 1)
		wantSaid(t, m, 1, 5, trial.Stats())
		wantAnswer(t, "told anew", m, 1, 7, did(trial.Alloc(9), api.Result{}))
		if !slices.Equal(m.W, was.W) {
			t.Fatal("the words that were handed in are changed")
		}
	}
}
