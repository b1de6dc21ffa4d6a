package fresh_test

import (
	"slices"
	"testing"

	"nacre/api"
	"nacre/fresh"
	"nacre/place"
	"nacre/trial"
)

// eight is the configuration of the chapter's example.
var eight = api.Config{Threads: 1, Pages: 8, Shift: 10}

// Configurations of each sort.
var (
	rights = slices.Concat(trial.Rights(eight), many())
	wrongs = slices.Concat(trial.Wrongs(eight), trial.Pageless(eight), trial.Vast(eight))
)

// many are right configurations of which each number of threads, of shifts, and of pages beside each power of two is one's.
func many() []api.Config {
	var l []api.Config
	for threads := 1; threads <= 16; threads++ {
		l = append(l, api.Config{Threads: threads, Pages: 4 + threads, Shift: 10})
	}
	for shift := 10; shift <= 20; shift++ {
		l = append(l, api.Config{Threads: 2, Pages: 5, Shift: shift})
	}
	for _, pages := range []int{4, 5, 6, 7, 8, 9, 15, 16, 17, 31, 32, 63, 64, 65, 127, 128, 255, 256, 257, 511, 512, 513, 1022, 1023} {
		l = append(l, api.Config{Threads: 3, Pages: pages, Shift: 11})
	}
	return l
}

// log is the logarithm of n, which is at least 1, in whole numbers.
func log(n int) int {
	k := 0
	for n > 1 {
		n /= 2
		k++
	}
	return k
}

// valsOf is the values that the chapter tells, each written where its cell's number says.
func valsOf(c api.Config) []uint32 {
	pages := 30 + 4*c.Threads
	vals := make([]uint32, pages+6*c.Pages)
	vals[0] = uint32(c.Pages)
	vals[2+log(c.Pages)] = 1
	vals[pages] = uint32(c.Pages)<<4 | 1
	vals[pages+6*(c.Pages-1)+1] = 1
	return vals
}

// wantVals asks whether Vals tells these.
func wantVals(t *testing.T, c api.Config, want []uint32) {
	t.Helper()
	if got := fresh.Vals(c); !slices.Equal(got, want) {
		t.Fatalf("Vals(%v) = %v, not %v", c, got, want)
	}
}

// wantWords asks whether Words tells these.
func wantWords(t *testing.T, c api.Config, want []uint64) {
	t.Helper()
	got := fresh.Words(c)
	if len(got) != len(want) {
		t.Fatalf("Words(%v) are %d words, not %d", c, len(got), len(want))
	}
	for w := range want {
		if got[w] != want[w] {
			t.Fatalf("the word %d of Words(%v) is %x, not %x", w, c, got[w], want[w])
		}
	}
}

// P25.1: the chapter's example: of eight pages four cells are not 0.
func TestExample(t *testing.T) {
	vals := make([]uint32, 82)
	vals[0], vals[5], vals[34], vals[77] = 8, 1, 0x81, 1
	wantVals(t, eight, vals)
	got := fresh.Vals(eight)
	if got[place.Free] != 8 || got[place.Bin(3)] != 1 || got[place.Info(eight, 0)] != 0x81 || got[place.Foot(eight, 7)] != 1 {
		t.Fatalf("Vals(%v) = %v", eight, got)
	}
}

// P25.1: Free is how many pages there are, the bin of so many leads to the page 0, Info of that one is a free span of all, and Foot of the last page leads to it; all else is 0: of the least configurations, the greatest ones, and others.
func TestVals(t *testing.T) {
	for _, c := range rights {
		wantVals(t, c, valsOf(c))
	}
}

// P25.1: of the most pages there may be, and the least.
func TestValsOfTheMostAndTheLeast(t *testing.T) {
	most := make([]uint32, 6238)
	most[0], most[12], most[94], most[6233] = 1024, 1, 0x4001, 1
	wantVals(t, api.Config{Threads: 16, Pages: 1024, Shift: 20}, most)
	least := make([]uint32, 58)
	least[0], least[4], least[34], least[53] = 4, 1, 0x41, 1
	wantVals(t, api.Config{Threads: 1, Pages: 4, Shift: 10}, least)
}

// P25.2: the words of the least memory, each written out: the head, the tip of the stamp 1, the cells with the stamp 0, and nothing else.
func TestWordsOfTheLeast(t *testing.T) {
	words := make([]uint64, 320)
	words[0], words[1], words[2], words[3] = 0x4e41435245303031, 1, 0x0000000a00040001, 320
	words[7] = 0xbe0a6f37
	words[8] = 1 << 32
	words[16], words[20], words[50], words[69] = 4, 1, 0x41, 1
	wantWords(t, api.Config{Threads: 1, Pages: 4, Shift: 10}, words)
}

// P25.1, P25.2: nothing of configurations that are not right, also of those that have very many pages.
func TestOfWrongConfigurations(t *testing.T) {
	for _, c := range wrongs {
		if vals := fresh.Vals(c); vals != nil {
			t.Fatalf("Vals(%v) = %v", c, vals)
		}
		if words := fresh.Words(c); words != nil {
			t.Fatalf("Words(%v) = %v", c, words)
		}
	}
}

// P25.1, P25.2: what was told is nobody else's: who changes it does not change what is told next.
func TestToldAnew(t *testing.T) {
	for _, c := range rights {
		vals, words := fresh.Vals(c), fresh.Words(c)
		wasVals, wasWords := slices.Clone(vals), slices.Clone(words)
		for i := range vals {
			vals[i]++
		}
		for w := range words {
			words[w]++
		}
		wantVals(t, c, wasVals)
		wantWords(t, c, wasWords)
	}
}
