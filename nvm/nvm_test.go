package nvm_test

import (
	"math"
	"slices"
	"testing"

	"nacre/api"
	"nacre/nvm"
)

// nowhere are places at which no memory has a word or a line, also those of which the low bits could be one.
var nowhere = []int{
	-1, -2, -7, -8, -9, -16, -64, -1 << 16, -1 << 31, -1 << 32, -1 << 61, math.MinInt, math.MinInt + 1, math.MinInt + 8,
	65536, 65537, 1 << 20, 1 << 31, 1<<31 + 1, 1 << 32, 1<<32 + 3, 1 << 60, 1 << 61, 1<<61 + 1, 1 << 62, math.MaxInt - 8, math.MaxInt - 1, math.MaxInt,
}

// nobodies are numbers that no who has.
var nobodies = []int{-1, -2, -16, -17, -1 << 32, math.MinInt, 17, 18, 32, 33, 64, 256, 1 << 16, 1 << 32, 1<<32 + 1, math.MaxInt}

// noMasks are masks that may not be.
var noMasks = []int{0, -1, -2, -128, -255, -256, math.MinInt, math.MinInt + 1, 256, 257, 511, 512, 1 << 16, 1<<32 + 1, math.MaxInt}

// rising is n words of which each is another one.
func rising(n int) []uint64 {
	w := make([]uint64, n)
	for i := range w {
		w[i] = uint64(i)<<32 + 7
	}
	return w
}

// made is a memory of n rising words.
func made(t *testing.T, n int) *nvm.Mem {
	t.Helper()
	m := nvm.New(rising(n))
	if m == nil {
		t.Fatalf("New of %d words is nil", n)
	}
	return m
}

// wantWords asks whether the words of m are these as they are, and as they are kept.
func wantWords(t *testing.T, m *nvm.Mem, are, kept []uint64) {
	t.Helper()
	if got := m.Words(); !slices.Equal(got, are) {
		t.Fatalf("Words() = %x, not %x", got, are)
	}
	if got := m.Kept(); !slices.Equal(got, kept) {
		t.Fatalf("Kept() = %x, not %x", got, kept)
	}
	for at, w := range are {
		if got, ok := m.Load(at); !ok || got != w {
			t.Fatalf("Load(%d) = %x, %v, not %x, true", at, got, ok, w)
		}
	}
}

// wantPending asks whether these lines are pending of who.
func wantPending(t *testing.T, m *nvm.Mem, who int, lines ...int) {
	t.Helper()
	if got := m.Pending(who); !slices.Equal(got, lines) {
		t.Fatalf("Pending(%d) = %v, not %v", who, got, lines)
	}
}

// wantNobody asks whether nobody has anything pending.
func wantNobody(t *testing.T, m *nvm.Mem) {
	t.Helper()
	for who := -1; who <= api.MaxThreads+1; who++ {
		wantPending(t, m, who)
	}
}

// wantFenced asks whether a fence of who keeps so many lines, and leaves none of them pending.
func wantFenced(t *testing.T, m *nvm.Mem, who, lines int) {
	t.Helper()
	if got := m.Fence(who); got != lines {
		t.Fatalf("Fence(%d) = %d, not %d", who, got, lines)
	}
	wantPending(t, m, who)
}

// must asks whether what was done was done.
func must(t *testing.T, done bool) {
	t.Helper()
	if !done {
		t.Fatal("not done")
	}
}

// mustNot asks whether what may not be done was refused.
func mustNot(t *testing.T, done bool) {
	t.Helper()
	if done {
		t.Fatal("done")
	}
}

// P10.1: words make a memory just if they are whole lines, from one to MaxWords/Line; it has them as they are, and as they are kept.
func TestNewOfHowManyWords(t *testing.T) {
	if nvm.New(nil) != nil || nvm.New([]uint64{}) != nil {
		t.Fatal("no words make a memory")
	}
	for n := range 200 {
		w := rising(n)
		m := nvm.New(w)
		if right := n >= 8 && n%8 == 0; (m != nil) != right {
			t.Fatalf("New of %d words: a memory is made: %v", n, m != nil)
		} else if right {
			wantWords(t, m, w, w)
			wantNobody(t, m)
		}
	}
	for _, n := range []int{65529, 65535, 65537, 65543, 65544, 65545, 65600, 1 << 17, 1<<17 + 8, 1 << 20} {
		if nvm.New(make([]uint64, n)) != nil {
			t.Fatalf("%d words make a memory", n)
		}
	}
}

// P10.1: room behind the words is no part of them.
func TestNewOfWordsWithRoomBehind(t *testing.T) {
	w := rising(32)
	if nvm.New(w[:0]) != nil || nvm.New(w[:7]) != nil || nvm.New(w[:9]) != nil {
		t.Fatal("no whole lines make a memory")
	}
	m := nvm.New(w[:16])
	wantWords(t, m, rising(16), rising(16))
	mustNot(t, m.Store(16, 1))
	mustNot(t, m.Evict(2, 1))
}

// P10.1, P10.2, P10.3: the least memory, and the greatest: each end of it, and one beyond.
func TestLeastAndGreatestMemory(t *testing.T) {
	for _, n := range []int{8, 16, 65528, 65536} {
		m := made(t, n)
		are, kept := rising(n), rising(n)
		wantWords(t, m, are, kept)
		must(t, m.Store(0, 5))
		must(t, m.Store(n-1, 6))
		are[0], are[n-1] = 5, 6
		mustNot(t, m.Store(n, 5))
		mustNot(t, m.Swap(n, 0, 5))
		mustNot(t, m.Flush(0, n))
		mustNot(t, m.Evict(n/8, 1))
		if v, ok := m.Load(n); ok || v != 0 {
			t.Fatalf("Load(%d) = %x, %v", n, v, ok)
		}
		wantWords(t, m, are, kept)
		must(t, m.Flush(16, n-1))
		wantPending(t, m, 16, n/8-1)
		wantFenced(t, m, 16, 1)
		kept[n-1] = 6
		if n == 8 {
			kept[0] = 5
		}
		wantWords(t, m, are, kept)
		must(t, m.Evict(0, 1))
		kept[0] = 5
		wantWords(t, m, are, kept)
	}
}

// P10.1: the words that New was given stay as they were, whatever is done to the memory, and the memory, whatever is done to them.
func TestWordsThatWereGivenStay(t *testing.T) {
	w := rising(24)
	m := nvm.New(w)
	for at := range w {
		must(t, m.Store(at, 1))
		must(t, m.Flush(0, at))
	}
	wantFenced(t, m, 0, 3)
	must(t, m.Swap(3, 1, 2))
	must(t, m.Evict(0, 255))
	m.Crash()
	if !slices.Equal(w, rising(24)) {
		t.Fatalf("the words that were given are %x", w)
	}

	m = nvm.New(w)
	clear(w)
	wantWords(t, m, rising(24), rising(24))
	m.Crash()
	wantWords(t, m, rising(24), rising(24))
}

// P10.4: what Words, Kept and Pending gave does not change the memory when it is written to, nor does it change with the memory.
func TestWordsThatWereToldAreCopies(t *testing.T) {
	m := made(t, 16)
	must(t, m.Flush(2, 3))
	must(t, m.Flush(2, 9))
	clear(m.Words())
	clear(m.Kept())
	lines := m.Pending(2)
	lines[0], lines[1] = 1, 5
	wantWords(t, m, rising(16), rising(16))
	wantPending(t, m, 2, 0, 1)
	m.Crash()
	wantWords(t, m, rising(16), rising(16))

	are, kept := m.Words(), m.Kept()
	must(t, m.Store(3, 9))
	must(t, m.Evict(0, 8))
	if !slices.Equal(are, rising(16)) || !slices.Equal(kept, rising(16)) {
		t.Fatal("what was told changed with the memory")
	}
}

// P10.4: the words as they are and those that are kept are told as two lists.
func TestWordsAndKeptShareNothing(t *testing.T) {
	m := made(t, 8)
	are, kept := m.Words(), m.Kept()
	clear(are)
	if !slices.Equal(kept, rising(8)) {
		t.Fatal("Words and Kept tell one list")
	}
}

// P10.2: Load, Store and Swap at each word: it, and no other one, is changed, and none of them changes what is kept.
func TestLoadStoreSwapAtEachWord(t *testing.T) {
	m := made(t, 24)
	are, kept := rising(24), rising(24)
	for at := range are {
		for _, v := range []uint64{0, 1, math.MaxUint32, 1 << 32, 1 << 63, math.MaxUint64} {
			must(t, m.Store(at, v))
			are[at] = v
			wantWords(t, m, are, kept)
			must(t, m.Swap(at, v, v+1))
			are[at] = v + 1
			wantWords(t, m, are, kept)
			must(t, m.Swap(at, v+1, v+1))
			wantWords(t, m, are, kept)
		}
	}
	wantNobody(t, m)
}

// P10.2: a Swap whose old word is not there changes nothing, also where the word differs in one bit, or is the new one already.
func TestSwapWhoseOldWordIsNotThere(t *testing.T) {
	m := made(t, 16)
	must(t, m.Store(9, 1<<40))
	are := rising(16)
	are[9] = 1 << 40
	for bit := range 64 {
		mustNot(t, m.Swap(9, 1<<40^1<<bit, 5))
		mustNot(t, m.Swap(9, 1<<40^1<<bit, 1<<40))
	}
	mustNot(t, m.Swap(9, rising(16)[9], 5)) // what is kept
	mustNot(t, m.Swap(9, 0, 5))
	mustNot(t, m.Swap(9, 5, 5))
	mustNot(t, m.Swap(8, 1<<40, 5)) // what stands beside it
	wantWords(t, m, are, rising(16))
}

// P10.2, P10.3: at a word or in a line that there is not nothing is told and nothing done, also where it is negative or very great.
func TestNowhere(t *testing.T) {
	m := made(t, 16)
	must(t, m.Store(5, 0))
	must(t, m.Flush(1, 5))
	are := m.Words()
	places := append([]int{16, 17, 23, 24, 64, 128}, nowhere...)
	for _, at := range places {
		if v, ok := m.Load(at); ok || v != 0 {
			t.Fatalf("Load(%d) = %x, %v, not 0, false", at, v, ok)
		}
		mustNot(t, m.Store(at, 9))
		mustNot(t, m.Swap(at, 0, 9))
		mustNot(t, m.Swap(at, 0, 0))
		for who := -1; who <= 17; who++ {
			mustNot(t, m.Flush(who, at))
		}
		mustNot(t, m.Evict(at, 1))
		mustNot(t, m.Evict(at, 255))
		wantWords(t, m, are, rising(16))
	}
	for _, line := range []int{2, 3, 8, 15} {
		mustNot(t, m.Evict(line, 255))
	}
	wantWords(t, m, are, rising(16))
	wantPending(t, m, 1, 0)
	wantFenced(t, m, 1, 1)
	wantNobody(t, m)
}

// P10.3: a Flush makes the line of its word pending, of that who alone, for each who and word; it keeps nothing yet.
func TestFlushOfEachWhoAndWord(t *testing.T) {
	for who := 0; who <= api.MaxThreads; who++ {
		for at := range 40 {
			m := made(t, 40)
			must(t, m.Store(at, 1))
			must(t, m.Flush(who, at))
			for other := -1; other <= api.MaxThreads+1; other++ {
				if other == who {
					wantPending(t, m, other, at/8)
				} else {
					wantPending(t, m, other)
					wantFenced(t, m, other, 0)
				}
			}
			if !slices.Equal(m.Kept(), rising(40)) {
				t.Fatal("a Flush, or another one's Fence, keeps")
			}
			wantFenced(t, m, who, 1)
			if !slices.Equal(m.Kept(), m.Words()) {
				t.Fatal("the Fence does not keep")
			}
		}
	}
}

// P10.3: who is from 0 to MaxThreads: a Flush of nobody changes nothing, nor does a Fence, and nothing is pending of it.
func TestNobody(t *testing.T) {
	m := made(t, 16)
	must(t, m.Store(1, 1))
	must(t, m.Flush(0, 0))
	must(t, m.Flush(16, 8))
	are := m.Words()
	for _, who := range nobodies {
		mustNot(t, m.Flush(who, 0))
		mustNot(t, m.Flush(who, 15))
		mustNot(t, m.Flush(who, 16))
		wantPending(t, m, who)
		wantFenced(t, m, who, 0)
		wantWords(t, m, are, rising(16))
	}
	wantPending(t, m, 0, 0)
	wantPending(t, m, 16, 1)
}

// P10.3: a Fence keeps each line as it is at the fence, not as it was at the flush, whole, and no other line.
func TestFenceKeepsTheLineAsItIsNow(t *testing.T) {
	m := made(t, 32)
	must(t, m.Store(9, 1))
	must(t, m.Store(17, 2))
	must(t, m.Flush(3, 12))
	must(t, m.Store(9, 3))
	must(t, m.Store(15, 4))
	must(t, m.Store(7, 5))
	must(t, m.Store(16, 6))
	wantFenced(t, m, 3, 1)
	kept := rising(32)
	kept[9], kept[15] = 3, 4
	if got := m.Kept(); !slices.Equal(got, kept) {
		t.Fatalf("Kept() = %x, not %x", got, kept)
	}
	// What is stored behind the fence is not kept by it, nor by a second one.
	must(t, m.Store(9, 8))
	wantFenced(t, m, 3, 0)
	if got := m.Kept(); !slices.Equal(got, kept) {
		t.Fatalf("Kept() = %x, not %x", got, kept)
	}
}

// P10.3: a line may be stored back to what it was between flush and fence: then so it is kept.
func TestFenceKeepsWhatWasStoredBack(t *testing.T) {
	m := made(t, 8)
	must(t, m.Store(3, 9))
	must(t, m.Evict(0, 8))
	must(t, m.Flush(0, 3))
	must(t, m.Swap(3, 9, rising(8)[3]))
	wantFenced(t, m, 0, 1)
	wantWords(t, m, rising(8), rising(8))
}

// P10.3: a Fence tells how many lines these were, each once, however often and at whichever of its words it was flushed.
func TestFenceCountsEachLineOnce(t *testing.T) {
	m := made(t, 64)
	for range 3 {
		for at := 8; at < 40; at++ {
			must(t, m.Flush(5, at))
		}
	}
	must(t, m.Flush(5, 63))
	wantPending(t, m, 5, 1, 2, 3, 4, 7)
	wantFenced(t, m, 5, 5)
	wantFenced(t, m, 5, 0)
	must(t, m.Flush(5, 20))
	wantFenced(t, m, 5, 1)
}

// P10.3: another who's lines stay pending, also those that are flushed by both; its own fence keeps them again as they are then.
func TestFenceLeavesAnotherWhosLines(t *testing.T) {
	m := made(t, 24)
	for who := 0; who <= api.MaxThreads; who++ {
		must(t, m.Flush(who, 3))
		must(t, m.Flush(who, 16+who%8))
	}
	for who := 0; who <= api.MaxThreads; who++ {
		must(t, m.Store(3, uint64(who)))
		must(t, m.Store(8, uint64(who)))
		wantFenced(t, m, who, 2)
		if kept := m.Kept(); kept[3] != uint64(who) || kept[8] != rising(24)[8] {
			t.Fatalf("behind the fence of %d these are kept: %x", who, kept)
		}
		for other := who + 1; other <= api.MaxThreads; other++ {
			wantPending(t, m, other, 0, 2)
		}
	}
	wantNobody(t, m)
}

// P10.3: an Evict of a mask that may not be changes nothing.
func TestEvictOfNoMask(t *testing.T) {
	m := made(t, 16)
	for at := range 16 {
		must(t, m.Store(at, 1))
	}
	are := m.Words()
	for _, mask := range noMasks {
		for line := -1; line <= 2; line++ {
			mustNot(t, m.Evict(line, mask))
		}
	}
	wantWords(t, m, are, rising(16))
}

// P10.3: an Evict keeps just those words of its line whose bits of the mask are 1, for each mask, so each bit by itself; what is pending stays so.
func TestEvictOfEachMask(t *testing.T) {
	for mask := 1; mask <= 255; mask++ {
		for line := range 3 {
			m := made(t, 24)
			must(t, m.Flush(1, 8*line))
			for at := range 24 {
				must(t, m.Store(at, uint64(at+1)))
			}
			kept := rising(24)
			for i := range 8 {
				if mask&(1<<i) != 0 {
					kept[8*line+i] = uint64(8*line + i + 1)
				}
			}
			must(t, m.Evict(line, mask))
			wantWords(t, m, m.Words(), kept)
			wantPending(t, m, 1, line)
			m.Crash()
			wantWords(t, m, kept, kept)
		}
	}
}

// P10.3, P10.5: behind a Crash the words are those that are kept, and nobody has anything pending; what is stored then is not kept by a fence for what was flushed ahead.
func TestCrash(t *testing.T) {
	m := made(t, 32)
	kept := rising(32)
	for at := range 32 {
		must(t, m.Store(at, uint64(at)))
	}
	must(t, m.Flush(0, 0))
	wantFenced(t, m, 0, 1)
	must(t, m.Evict(2, 0x81))
	for who := 0; who <= api.MaxThreads; who++ {
		must(t, m.Flush(who, 8))
		must(t, m.Flush(who, 24))
	}
	for at := range 8 {
		kept[at] = uint64(at)
	}
	kept[16], kept[23] = 16, 23
	m.Crash()
	wantWords(t, m, kept, kept)
	wantNobody(t, m)
	must(t, m.Store(8, 5))
	for who := 0; who <= api.MaxThreads; who++ {
		wantFenced(t, m, who, 0)
	}
	m.Crash()
	wantWords(t, m, kept, kept)
	// It goes on behind it as ahead of it.
	must(t, m.Store(8, 5))
	must(t, m.Flush(4, 9))
	wantPending(t, m, 4, 1)
	wantFenced(t, m, 4, 1)
	kept[8] = 5
	wantWords(t, m, kept, kept)
}

// P10.4: Pending rises, and has each line once, in whatever order the lines were flushed.
func TestPendingRises(t *testing.T) {
	m := made(t, 8*101)
	var lines []int
	for i := range 101 {
		lines = append(lines, i)
		// 37 and 101 have no common divisor: so each line is flushed, out of order.
		line := i * 37 % 101
		must(t, m.Flush(7, 8*line+i%8))
		must(t, m.Flush(7, 8*line))
		must(t, m.Flush(8, 8*(i%3)))
	}
	wantPending(t, m, 7, lines...)
	wantPending(t, m, 8, 0, 1, 2)
	wantFenced(t, m, 7, 101)
	wantPending(t, m, 8, 0, 1, 2)
}

// P10.4: a copy is like it: words, what is kept, what is pending; and neither knows of the other.
func TestCopy(t *testing.T) {
	m := made(t, 24)
	must(t, m.Store(1, 1))
	must(t, m.Evict(0, 2))
	must(t, m.Store(2, 2))
	must(t, m.Flush(3, 2))
	must(t, m.Flush(16, 20))
	are, kept := rising(24), rising(24)
	are[1], are[2], kept[1] = 1, 2, 1
	same := func(m *nvm.Mem) {
		t.Helper()
		wantWords(t, m, are, kept)
		wantPending(t, m, 3, 0)
		wantPending(t, m, 16, 2)
	}
	change := func(m *nvm.Mem) {
		must(t, m.Store(5, 5))
		must(t, m.Swap(9, are[9], 3))
		must(t, m.Evict(1, 255))
		must(t, m.Flush(3, 9))
		must(t, m.Flush(4, 9))
		wantFenced(t, m, 3, 2)
		m.Crash()
	}
	c := m.Copy()
	same(c)
	change(c)
	same(m)
	c = m.Copy()
	change(m)
	same(c)
	wantFenced(t, c, 3, 1)
	wantFenced(t, c, 16, 1)
	wantWords(t, c, are, are)
	// A copy of one of which nobody has anything pending can do all that it can.
	c = made(t, 8).Copy()
	must(t, c.Flush(0, 7))
	wantPending(t, c, 0, 0)
}

// P10.1: nil, and a Mem that New did not make: zeros, false, nothing.
func TestMemThatNewDidNotMake(t *testing.T) {
	for _, m := range []*nvm.Mem{nil, new(nvm.Mem), {}} {
		for _, at := range append([]int{0, 1, 7, 8}, nowhere...) {
			if v, ok := m.Load(at); ok || v != 0 {
				t.Fatalf("Load(%d) = %x, %v, not 0, false", at, v, ok)
			}
			mustNot(t, m.Store(at, 1))
			mustNot(t, m.Swap(at, 0, 1))
			mustNot(t, m.Swap(at, 0, 0))
			mustNot(t, m.Flush(0, at))
			mustNot(t, m.Evict(at, 1))
			mustNot(t, m.Evict(at, 255))
		}
		for who := -1; who <= 17; who++ {
			wantFenced(t, m, who, 0)
			wantPending(t, m, who)
		}
		m.Crash()
		if len(m.Words()) != 0 || len(m.Kept()) != 0 {
			t.Fatal("it has words")
		}
		if m.Copy() != nil {
			t.Fatal("its copy is something")
		}
	}
}

// P10.5: what somebody flushed and fenced is kept, whatever others did in between, as long as nobody stores there.
func TestWhatWasFencedIsKept(t *testing.T) {
	for who := 0; who <= api.MaxThreads; who++ {
		m := made(t, 32)
		must(t, m.Store(3, 9))
		for other := 0; other <= api.MaxThreads; other++ {
			must(t, m.Flush(other, 3))
			must(t, m.Flush(other, 12))
		}
		must(t, m.Store(12, 1))
		for other := 0; other <= api.MaxThreads; other++ {
			if other != who {
				wantFenced(t, m, other, 2)
			}
		}
		must(t, m.Store(4, 8))
		must(t, m.Evict(0, 1))
		wantFenced(t, m, who, 2)
		must(t, m.Evict(0, 255))
		must(t, m.Store(20, 6))
		mustNot(t, m.Swap(3, 8, 1))
		must(t, m.Flush(who, 20))
		m.Crash()
		if kept := m.Kept(); kept[3] != 9 || kept[4] != 8 || kept[12] != 1 || kept[20] != rising(32)[20] {
			t.Fatalf("these are kept: %x", kept)
		}
	}
}

// P10.2, P10.3: the chapter's example.
func TestExample(t *testing.T) {
	m := made(t, 16)
	must(t, m.Store(3, 9))
	m.Crash()
	if v, ok := m.Load(3); !ok || v != rising(16)[3] {
		t.Fatalf("Load(3) = %x, %v", v, ok)
	}
	must(t, m.Store(3, 9))
	must(t, m.Flush(0, 3))
	wantFenced(t, m, 0, 1)
	m.Crash()
	if v, ok := m.Load(3); !ok || v != 9 {
		t.Fatalf("Load(3) = %x, %v, not 9, true", v, ok)
	}
}

// plain is a memory as the chapter tells it, with all that may be pending written out.
type plain struct {
	are, kept [24]uint64
	pending   [17][3]bool
}

// do does the act of a number to both, at places told by the others, and asks whether they answer the same.
func (p *plain) do(t *testing.T, m *nvm.Mem, act, who, at, v int) {
	t.Helper()
	line := at / 8
	switch act {
	case 0, 1:
		must(t, m.Store(at, uint64(v)))
		p.are[at] = uint64(v)
	case 2:
		old := uint64(v ^ 1)
		if got := m.Swap(at, old, uint64(v)); got != (p.are[at] == old) {
			t.Fatalf("Swap is %v", got)
		} else if got {
			p.are[at] = uint64(v)
		}
	case 3, 4:
		must(t, m.Flush(who, at))
		p.pending[who][line] = true
	case 5:
		n := 0
		for l, is := range p.pending[who] {
			if is {
				n++
				copy(p.kept[8*l:8*l+8], p.are[8*l:8*l+8])
			}
		}
		p.pending[who] = [3]bool{}
		wantFenced(t, m, who, n)
	case 6:
		must(t, m.Evict(line, 1<<(at%8)))
		p.kept[at] = p.are[at]
	case 7:
		if v == 0 {
			m.Crash()
			p.are = p.kept
			p.pending = [17][3]bool{}
		}
	}
}

// wantSame asks whether m is as p.
func (p *plain) wantSame(t *testing.T, m *nvm.Mem) {
	t.Helper()
	wantWords(t, m, p.are[:], p.kept[:])
	for who, lines := range p.pending {
		var want []int
		for l, is := range lines {
			if is {
				want = append(want, l)
			}
		}
		wantPending(t, m, who, want...)
	}
}

// P10.1 to P10.5: long rows of acts of many, held against a memory whose rules are written out; each goes on with a copy of it.
func TestLongRowsOfActs(t *testing.T) {
	m := nvm.New(make([]uint64, 24))
	p := &plain{}
	x := uint32(1)
	next := func(n int) int {
		x = x*1664525 + 1013904223
		return int(x>>16) % n
	}
	for i := range 20000 {
		p.do(t, m, next(8), next(17), next(24), next(4))
		p.wantSame(t, m)
		if i%100 == 0 {
			m = m.Copy()
		}
	}
}
