package op_test

import (
	"math"
	"testing"

	"nacre/api"
	"nacre/op"
)

// uses is how many of A and B, in this order, each Kind uses, by the Kind's number, as the chapter tells it; there is no Kind 0.
var uses = [10]int{-1, 1, 1, 2, 2, 2, 1, 1, 0, 1}

// numbers are what A and B may be: 0, both ends, the edges of fewer bits, and others between, also ones of which the low bits are 0.
var numbers = []int64{
	0, 1, 2, 7, 8, 9, 255, 256, 1024, 1<<16 - 1, 1 << 16, 1<<31 - 1, 1 << 31, 1<<32 - 1, 1 << 32, 1<<32 + 1, 1 << 48, 0x123456789abcdef0, math.MaxInt64 - 1, math.MaxInt64,
	-1, -2, -8, -1024, -1 << 16, -1 << 31, -1<<31 - 1, -1 << 32, -1<<32 + 1, -1 << 48, -0x123456789abcdef0, math.MinInt64 + 1, math.MinInt64,
}

// noKinds are numbers of no Kind, also those of which the low bits are one's.
var noKinds = []int{
	-1, -2, -3, -7, -8, -9, -10, math.MinInt32, math.MinInt32 + 8, -1 << 32, -1<<32 + 1, -1<<32 + 8, math.MinInt, math.MinInt + 1, math.MinInt + 8, math.MinInt + 9,
	0, 10, 11, 12, 15, 16, 17, 24, 25, 255, 256, 257, 264, 1 << 16, 1<<16 + 1, 1<<16 + 8, math.MaxInt32, 1 << 31, 1<<31 + 3, 1<<32 - 1, 1 << 32, 1<<32 + 1, 1<<32 + 8, 1<<32 + 9, 1 << 62, 1<<62 + 8, math.MaxInt - 1, math.MaxInt,
}

// wordOf is the word of a number, added up: of one below 0 what it lacks to 2^64.
func wordOf(n int64) uint64 {
	if n >= 0 {
		return uint64(n)
	}
	return math.MaxUint64 - uint64(-(n + 1))
}

// wordsOf is the words of an operation, one by one.
func wordsOf(o api.Op) [3]uint64 {
	return [3]uint64{wordOf(int64(o.Kind)), wordOf(o.A), wordOf(o.B)}
}

// wantRight asks whether an operation is right, and whether its words lead back to it.
func wantRight(t *testing.T, o api.Op) {
	t.Helper()
	if !op.Right(o) {
		t.Fatalf("Right(%v) is false", o)
	}
	w := op.Words(o)
	if w != wordsOf(o) {
		t.Fatalf("Words(%v) = %x, not %x", o, w, wordsOf(o))
	}
	if back, ok := op.Of(w); !ok || back != o {
		t.Fatalf("Of(%x) = %v, %t, not %v, true", w, back, ok, o)
	}
}

// wantWrong asks whether an operation is not right, and has words all the same, of which none is told.
func wantWrong(t *testing.T, o api.Op) {
	t.Helper()
	if op.Right(o) {
		t.Fatalf("Right(%v) is true", o)
	}
	w := op.Words(o)
	if w != wordsOf(o) {
		t.Fatalf("Words(%v) = %x, not %x", o, w, wordsOf(o))
	}
	wantNoOp(t, w)
}

// wantNoOp asks whether words are no operation's.
func wantNoOp(t *testing.T, w [3]uint64) {
	t.Helper()
	if o, ok := op.Of(w); ok || o != (api.Op{}) {
		t.Fatalf("Of(%x) = %v, %t, not zeros, false", w, o, ok)
	}
}

// P22.1: the chapter's example.
func TestExample(t *testing.T) {
	o := api.Op{Kind: api.OpFree, A: -1}
	w := [3]uint64{2, 0xffffffffffffffff, 0}
	if got := op.Words(o); got != w {
		t.Fatalf("Words(%v) = %x", o, got)
	}
	if got, ok := op.Of(w); !ok || got != o {
		t.Fatalf("Of(%x) = %v, %t", w, got, ok)
	}
}

// P22.1: operations of each Kind, with what they use, and their words, written out.
func TestEachKind(t *testing.T) {
	for _, x := range []struct {
		o api.Op
		w [3]uint64
	}{
		{api.Op{Kind: api.OpAlloc, A: 100}, [3]uint64{1, 100, 0}},
		{api.Op{Kind: api.OpAlloc, A: -5}, [3]uint64{1, 0xfffffffffffffffb, 0}},
		{api.Op{Kind: api.OpFree, A: 1024}, [3]uint64{2, 1024, 0}},
		{api.Op{Kind: api.OpRealloc, A: 1024, B: 50}, [3]uint64{3, 1024, 50}},
		{api.Op{Kind: api.OpRealloc, A: -1024, B: -50}, [3]uint64{3, 0xfffffffffffffc00, 0xffffffffffffffce}},
		{api.Op{Kind: api.OpRealloc, A: 1 << 32, B: math.MaxInt64}, [3]uint64{3, 0x100000000, 0x7fffffffffffffff}},
		{api.Op{Kind: api.OpAllocRoot, A: 7, B: 3000}, [3]uint64{4, 7, 3000}},
		{api.Op{Kind: api.OpAllocRoot, B: 3000}, [3]uint64{4, 0, 3000}},
		{api.Op{Kind: api.OpSetRoot, A: 8, B: math.MinInt64}, [3]uint64{5, 8, 0x8000000000000000}},
		{api.Op{Kind: api.OpSetRoot, A: 2}, [3]uint64{5, 2, 0}},
		{api.Op{Kind: api.OpGetRoot, A: 3}, [3]uint64{6, 3, 0}},
		{api.Op{Kind: api.OpUsable, A: 4096}, [3]uint64{7, 4096, 0}},
		{api.Op{Kind: api.OpStats}, [3]uint64{8, 0, 0}},
		{api.Op{Kind: api.OpFlush, A: 9}, [3]uint64{9, 9, 0}},
	} {
		wantRight(t, x.o)
		if got := op.Words(x.o); got != x.w {
			t.Fatalf("Words(%v) = %x, not %x", x.o, got, x.w)
		}
	}
}

// P22.1, P22.3: of each Kind just those operations are right of which what is not used is 0, whatever is used.
func TestWhatIsUsed(t *testing.T) {
	for kind := 1; kind <= 9; kind++ {
		for _, a := range numbers {
			for _, b := range numbers {
				o := api.Op{Kind: kind, A: a, B: b}
				if (uses[kind] >= 1 || a == 0) && (uses[kind] >= 2 || b == 0) {
					wantRight(t, o)
				} else {
					wantWrong(t, o)
				}
			}
		}
	}
}

// P22.1: what is not used is 0 in each of its bits.
func TestEachBitOfWhatIsNotUsed(t *testing.T) {
	for kind := 1; kind <= 9; kind++ {
		for bit := range 64 {
			n := int64(uint64(1) << bit)
			if uses[kind] < 1 {
				wantWrong(t, api.Op{Kind: kind, A: n})
			} else {
				wantRight(t, api.Op{Kind: kind, A: n})
			}
			if uses[kind] < 2 {
				wantWrong(t, api.Op{Kind: kind, B: n})
			} else {
				wantRight(t, api.Op{Kind: kind, B: n})
			}
		}
	}
}

// P22.1: an operation of no Kind is not right, whatever else it has; it has words, of which no operation is told.
func TestNoKinds(t *testing.T) {
	for _, kind := range noKinds {
		for _, a := range numbers {
			for _, b := range numbers {
				wantWrong(t, api.Op{Kind: kind, A: a, B: b})
			}
		}
	}
}

// P22.1: words of which the first one is a Kind's but for one bit are another Kind's, or none's.
func TestEachBitOfTheKind(t *testing.T) {
	for kind := uint64(1); kind <= 9; kind++ {
		for bit := range 64 {
			word := kind ^ 1<<bit
			if word >= 1 && word <= 9 {
				wantRight(t, api.Op{Kind: int(word)})
				continue
			}
			for _, n := range numbers {
				wantNoOp(t, [3]uint64{word, wordOf(n), 0})
				wantNoOp(t, [3]uint64{word, wordOf(n), wordOf(n)})
			}
		}
	}
}

// P22.1: words that are no operation's, written out.
func TestWordsOfNoOperation(t *testing.T) {
	const top = 1 << 63
	for _, w := range [][3]uint64{
		{}, {0, 1024, 50}, {0, 0, 1}, {10, 0, 0}, {10, 1, 1}, // Kinds that are none
		{math.MaxUint64, 0, 0}, {math.MaxUint64, math.MaxUint64, math.MaxUint64}, {1 << 32, 0, 0}, {1<<32 + 1, 100, 0}, {1<<32 + 8, 0, 0}, {top + 3, 1024, 50}, {top, 0, 0},
		{1, 100, 1}, {2, 1024, 1 << 32}, {6, 3, top}, {7, 4096, math.MaxUint64}, {9, 8, 8}, {1, 0, 1}, {9, 0, 1}, // a B that is not used
		{8, 1, 0}, {8, 0, 1}, {8, 1, 1}, {8, math.MaxUint64, 0}, {8, top, 0}, {8, 0, top}, {8, top, top}, {8, 1, math.MaxUint64}, // an A, or a B, that is not used
	} {
		wantNoOp(t, w)
	}
}
