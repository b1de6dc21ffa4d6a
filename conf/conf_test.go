package conf_test

import (
	"math"
	"testing"

	"nacre/api"
	"nacre/conf"
)

// A right configuration has threads from 1 to 16, pages from 4 to 1024, a shift from 10 to 20. The numbers are written out: so the tests hold the limits, too.
const (
	mostThreads = 16
	leastPages  = 4
	mostPages   = 1024
	leastShift  = 10
	mostShift   = 20
)

// beyond are ints that no number of a configuration may be, also those of which the low bits could be one.
var beyond = []int{-1, -2, -4, -10, -16, -20, -1024, math.MinInt16, math.MinInt32, math.MinInt, math.MinInt + 10, 2048, 1 << 16, 1<<16 + 1, 1<<16 + 4, 1<<16 + 10, 1<<16 + 16, 1 << 31, 1<<31 + 10, 1 << 32, 1<<32 + 1, 1<<32 + 4, 1<<32 + 10, 1<<32 + 1024, -1<<32 + 10, 1<<48 + 10, math.MaxInt32, math.MaxInt}

// right calls see with every right configuration.
func right(see func(c api.Config)) {
	for threads := 1; threads <= mostThreads; threads++ {
		for pages := leastPages; pages <= mostPages; pages++ {
			for shift := leastShift; shift <= mostShift; shift++ {
				see(api.Config{Threads: threads, Pages: pages, Shift: shift})
			}
		}
	}
}

// wrong calls see with configurations of which one number, or more, may not be: at and beyond both ends.
func wrong(see func(c api.Config)) {
	threads := append([]int{0, mostThreads + 1, mostThreads + 2, 32}, beyond...)
	pages := append([]int{0, 1, leastPages - 1, mostPages + 1}, beyond...)
	shifts := append([]int{0, 1, leastShift - 1, mostShift + 1, 32, 63, 64, 65}, beyond...)
	good := api.Config{Threads: 2, Pages: 64, Shift: 10}
	for _, n := range threads {
		see(api.Config{Threads: n, Pages: good.Pages, Shift: good.Shift})
	}
	for _, n := range pages {
		see(api.Config{Threads: good.Threads, Pages: n, Shift: good.Shift})
	}
	for _, n := range shifts {
		see(api.Config{Threads: good.Threads, Pages: good.Pages, Shift: n})
	}
	for _, thread := range threads {
		for _, page := range pages {
			see(api.Config{Threads: thread, Pages: page, Shift: good.Shift})
			for _, shift := range shifts {
				see(api.Config{Threads: thread, Pages: page, Shift: shift})
			}
		}
	}
}

// P4.1: every configuration of which each number is at or between its ends is right; its page has 2^Shift bytes, its pages have as many each.
func TestRightConfigurations(t *testing.T) {
	page := map[int]int64{10: 1024, 11: 2048, 12: 4096, 13: 8192, 14: 16384, 15: 32768, 16: 65536, 17: 131072, 18: 262144, 19: 524288, 20: 1048576}
	right(func(c api.Config) {
		if e := conf.Check(c); e != api.OK {
			t.Fatalf("Check(%v) = %d", c, e)
		}
		if got := conf.Page(c); got != page[c.Shift] {
			t.Fatalf("Page(%v) = %d", c, got)
		}
		if got := conf.Bytes(c); got != int64(c.Pages)*page[c.Shift] {
			t.Fatalf("Bytes(%v) = %d", c, got)
		}
	})
}

// P4.1, P4.2: a configuration of which one number may not be is ErrArg, has no bytes and no word.
func TestWrongConfigurations(t *testing.T) {
	wrong(func(c api.Config) {
		if e := conf.Check(c); e != api.ErrArg {
			t.Fatalf("Check(%v) = %d", c, e)
		}
		if got := conf.Page(c); got != 0 {
			t.Fatalf("Page(%v) = %d", c, got)
		}
		if got := conf.Bytes(c); got != 0 {
			t.Fatalf("Bytes(%v) = %d", c, got)
		}
		if w, ok := conf.Word(c); ok || w != 0 {
			t.Fatalf("Word(%v) = %016x, %v", c, w, ok)
		}
	})
}

// P4.2: a word has the threads from bit 0 on, the pages from bit 16 on, the shift from bit 32 on, and nothing else; it is got back (P4.3).
func TestWordHasThreeFields(t *testing.T) {
	right(func(c api.Config) {
		want := uint64(c.Threads) + uint64(c.Pages)*0x10000 + uint64(c.Shift)*0x100000000
		w, ok := conf.Word(c)
		if !ok || w != want {
			t.Fatalf("Word(%v) = %016x, %v, want %016x", c, w, ok, want)
		}
		if back, ok := conf.Of(w); !ok || back != c {
			t.Fatalf("Of(%016x) = %v, %v, want %v", w, back, ok, c)
		}
	})
}

func wantNone(t *testing.T, w uint64) {
	t.Helper()
	if c, ok := conf.Of(w); ok || c != (api.Config{}) {
		t.Fatalf("Of(%016x) = %v, %v", w, c, ok)
	}
}

// P4.2: no word with a bit beyond the three fields is a configuration's, and none of which a field is beyond its ends.
func TestOfRefusesOtherBits(t *testing.T) {
	corners := []uint64{0x0000000a00040001, 0x0000000a00400002, 0x0000001404000010}
	for _, w := range corners {
		if _, ok := conf.Of(w); !ok {
			t.Fatalf("%016x is none", w)
		}
		for bit := 48; bit < 64; bit++ {
			wantNone(t, w|1<<bit)
		}
		wantNone(t, w|0xffff<<48)
	}
}

// P4.2: a word whose fields are no right configuration is none's, whatever each field is.
func TestOfRefusesWrongFields(t *testing.T) {
	for n := uint64(0); n <= 0xffff; n++ {
		if n < 1 || n > mostThreads {
			wantNone(t, 0x0000000a00400000|n)
		}
		if n < leastPages || n > mostPages {
			wantNone(t, 0x0000000a00000002|n<<16)
		}
		if n < leastShift || n > mostShift {
			wantNone(t, 0x0000000000400002|n<<32)
		}
	}
	for _, w := range []uint64{0, 1, 0xffff, 0xffffffff, 0x0000ffffffffffff, math.MaxInt64, 1 << 63, math.MaxUint64} {
		wantNone(t, w)
	}
}

// P4.3: a word of which a configuration is got is the one into which it is put.
func TestWordsAndConfigurationsAreOneToOne(t *testing.T) {
	for threads := uint64(0); threads <= 20; threads++ {
		for pages := uint64(0); pages <= 1030; pages++ {
			for shift := uint64(8); shift <= 22; shift++ {
				w := threads | pages<<16 | shift<<32
				c, ok := conf.Of(w)
				if !ok {
					continue
				}
				if back, ok := conf.Word(c); !ok || back != w {
					t.Fatalf("%016x comes back as %016x, %v", w, back, ok)
				}
			}
		}
	}
}

// P4.3: a heap has from 2^12 to 2^30 bytes, and there are heaps at both ends.
func TestBytesEnds(t *testing.T) {
	least, most := int64(math.MaxInt64), int64(0)
	right(func(c api.Config) {
		least = min(least, conf.Bytes(c))
		most = max(most, conf.Bytes(c))
	})
	if least != 1<<12 || most != 1<<30 {
		t.Fatal(least, most)
	}
}

// P4.1, P4.2: the chapter's example.
func TestExample(t *testing.T) {
	c := api.Config{Threads: 2, Pages: 64, Shift: 10}
	if e := conf.Check(c); e != api.OK || conf.Page(c) != 1024 || conf.Bytes(c) != 65536 {
		t.Fatal(e, conf.Page(c), conf.Bytes(c))
	}
	if w, ok := conf.Word(c); !ok || w != 0x0000000a00400002 {
		t.Fatalf("%016x, %v", w, ok)
	}
	if back, ok := conf.Of(0x0000000a00400002); !ok || back != c {
		t.Fatal(back, ok)
	}
}
