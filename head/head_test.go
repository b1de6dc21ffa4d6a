package head_test

import (
	"encoding/binary"
	"hash/crc32"
	"math"
	"slices"
	"testing"

	"nacre/api"
	"nacre/head"
)

const (
	magic   = 0x4e41435245303031
	allBits = math.MaxUint64
)

// known are heads whose sums, and numbers of words, were reckoned apart from the program.
var known = []struct {
	c api.Config
	w []uint64
}{
	{api.Config{Threads: 2, Pages: 4, Shift: 10}, []uint64{magic, 1, 0x0000000a00040002, 440, 0, 0, 0, 0xad8d56a7}},
	{api.Config{Threads: 1, Pages: 4, Shift: 10}, []uint64{magic, 1, 0x0000000a00040001, 320, 0, 0, 0, 0xbe0a6f37}},
	{api.Config{Threads: 16, Pages: 1024, Shift: 20}, []uint64{magic, 1, 0x0000001404000010, 8296, 0, 0, 0, 0x6473a4dd}},
	{api.Config{Threads: 2, Pages: 64, Shift: 10}, []uint64{magic, 1, 0x0000000a00400002, 800, 0, 0, 0, 0x6818eae8}},
	{api.Config{Threads: 2, Pages: 8, Shift: 10}, []uint64{magic, 1, 0x0000000a00080002, 464, 0, 0, 0, 0xab2d20b5}},
	{api.Config{Threads: 1, Pages: 5, Shift: 10}, []uint64{magic, 1, 0x0000000a00050001, 320, 0, 0, 0, 0xfd85cf17}},
	{api.Config{Threads: 3, Pages: 100, Shift: 12}, []uint64{magic, 1, 0x0000000c00640003, 1144, 0, 0, 0, 0x457fd475}},
	{api.Config{Threads: 1, Pages: 1024, Shift: 20}, []uint64{magic, 1, 0x0000001404000001, 6440, 0, 0, 0, 0x058f6d6a}},
	{api.Config{Threads: 16, Pages: 4, Shift: 10}, []uint64{magic, 1, 0x0000000a00040010, 2176, 0, 0, 0, 0xd0aa8346}},
}

// wrong are configurations of which one number, or more, may not be.
var wrong = []api.Config{
	{},
	{Threads: 0, Pages: 4, Shift: 10},
	{Threads: 17, Pages: 4, Shift: 10},
	{Threads: -1, Pages: 4, Shift: 10},
	{Threads: 1<<16 + 2, Pages: 4, Shift: 10},
	{Threads: 1<<32 + 2, Pages: 4, Shift: 10},
	{Threads: math.MinInt, Pages: 4, Shift: 10},
	{Threads: math.MaxInt, Pages: 4, Shift: 10},
	{Threads: 2, Pages: 0, Shift: 10},
	{Threads: 2, Pages: 3, Shift: 10},
	{Threads: 2, Pages: 1025, Shift: 10},
	{Threads: 2, Pages: -4, Shift: 10},
	{Threads: 2, Pages: 1<<16 + 4, Shift: 10},
	{Threads: 2, Pages: math.MinInt, Shift: 10},
	{Threads: 2, Pages: math.MaxInt, Shift: 10},
	{Threads: 2, Pages: 4, Shift: 0},
	{Threads: 2, Pages: 4, Shift: 9},
	{Threads: 2, Pages: 4, Shift: 21},
	{Threads: 2, Pages: 4, Shift: -10},
	{Threads: 2, Pages: 4, Shift: 1<<16 + 10},
	{Threads: 2, Pages: 4, Shift: math.MinInt},
	{Threads: 2, Pages: 4, Shift: math.MaxInt},
	{Threads: 0, Pages: 0, Shift: 10},
	{Threads: 17, Pages: 1025, Shift: 21},
	{Threads: math.MaxInt, Pages: math.MaxInt, Shift: math.MaxInt},
}

// eachRight calls see with configurations of all threads and shifts, and of pages at both ends and between.
func eachRight(see func(c api.Config)) {
	pages := []int{4, 5, 6, 7, 8, 9, 15, 16, 17, 63, 64, 100, 255, 256, 511, 512, 1000, 1022, 1023, 1024}
	for threads := 1; threads <= 16; threads++ {
		for _, page := range pages {
			for shift := 10; shift <= 20; shift++ {
				see(api.Config{Threads: threads, Pages: page, Shift: shift})
			}
		}
	}
}

// summed is the words with the sum behind them, as the library reckons it.
func summed(ahead ...uint64) []uint64 {
	var b []byte
	for _, w := range ahead {
		b = binary.LittleEndian.AppendUint64(b, w)
	}
	sum := crc32.Checksum(b, crc32.MakeTable(crc32.Castagnoli))
	return append(slices.Clone(ahead), uint64(sum))
}

// wordsOf is how many words a memory has: two lines, the cells in whole lines, and 15 lines of each maker.
func wordsOf(c api.Config) uint64 {
	cells := 30 + 4*c.Threads + 6*c.Pages
	return uint64(16 + (cells+7)/8*8 + (c.Threads+1)*15*8)
}

// confOf is the word of a configuration.
func confOf(c api.Config) uint64 {
	return uint64(c.Threads) | uint64(c.Pages)<<16 | uint64(c.Shift)<<32
}

// headOf is the head of a configuration, word by word as the chapter tells it.
func headOf(c api.Config) []uint64 {
	return summed(magic, 1, confOf(c), wordsOf(c), 0, 0, 0)
}

// other is a copy of words of which the word at is w.
func other(words []uint64, at int, w uint64) []uint64 {
	o := slices.Clone(words)
	o[at] = w
	return o
}

// otherSummed is the other words, of which the sum behind the seven is right again.
func otherSummed(words []uint64, at int, w uint64) []uint64 {
	return summed(other(words, at, w)[:7]...)
}

// turned is a copy of words in which the bits are turned that are 1 in burst, laid from the bit at of all of them on.
func turned(words []uint64, at int, burst uint32) []uint64 {
	o := slices.Clone(words)
	for bit := range 32 {
		if burst>>bit&1 == 1 {
			o[(at+bit)/64] ^= 1 << ((at + bit) % 64)
		}
	}
	return o
}

// wantHead asks whether words begin with the head of c.
func wantHead(t *testing.T, w []uint64, c api.Config) {
	t.Helper()
	if got, e := head.Decode(w); e != api.OK || got != c {
		t.Fatalf("Decode(%x) = %v, %d, not %v, 0", w, got, e, c)
	}
}

// wantNone asks whether words begin with no head.
func wantNone(t *testing.T, w []uint64) {
	t.Helper()
	if got, e := head.Decode(w); e != api.ErrCorrupt || got != (api.Config{}) {
		t.Fatalf("Decode(%x) = %v, %d, not zeros, 9", w, got, e)
	}
}

// P8.1: a head begins with the magic word and the version, which are constants.
func TestFirstWords(t *testing.T) {
	if head.Magic != magic || head.Version != 1 {
		t.Fatalf("%x, %x", uint64(head.Magic), uint64(head.Version))
	}
	text := binary.BigEndian.AppendUint64(nil, head.Magic)
	if string(text) != "NACRE001" {
		t.Fatalf("%q", text)
	}
}

// P8.1, P8.2: heads that were reckoned apart from the program, both ways.
func TestKnownHeads(t *testing.T) {
	for _, x := range known {
		if got := head.Encode(x.c); !slices.Equal(got, x.w) {
			t.Errorf("Encode(%v) = %x, not %x", x.c, got, x.w)
		}
		wantHead(t, x.w, x.c)
	}
}

// P8.1, P8.2: heads of the least and the greatest configurations, and of many between, word by word; what is encoded is decoded.
func TestHeadsOfRightConfigurations(t *testing.T) {
	eachRight(func(c api.Config) {
		w := head.Encode(c)
		if want := headOf(c); !slices.Equal(w, want) {
			t.Fatalf("Encode(%v) = %x, not %x", c, w, want)
		}
		wantHead(t, w, c)
	})
}

// P8.1: a configuration that is not right has no head.
func TestWrongConfigurationsHaveNoHead(t *testing.T) {
	for _, c := range wrong {
		if got := head.Encode(c); len(got) != 0 {
			t.Errorf("Encode(%v) = %x", c, got)
		}
	}
}

// P8.1: words that are fewer than eight are no head, not even the first ones of a head, nor if more stand behind them in the same list.
func TestFewerWordsThanAHead(t *testing.T) {
	wantNone(t, nil)
	wantNone(t, []uint64{})
	for _, x := range known {
		for n := range x.w {
			wantNone(t, slices.Clone(x.w[:n]))
			wantNone(t, x.w[:n])
			wantNone(t, x.w[8-n:])
		}
	}
	for n := range 8 {
		wantNone(t, make([]uint64, n))
	}
}

// P8.1: eight words 0, or of other kinds without a head, are none, and so are more of them.
func TestWordsWithoutAHead(t *testing.T) {
	for _, n := range []int{8, 9, 16, 440, 1 << 16} {
		zeros := make([]uint64, n)
		wantNone(t, zeros)
		ones := slices.Repeat([]uint64{allBits}, n)
		wantNone(t, ones)
	}
	wantNone(t, summed(0, 0, 0, 0, 0, 0, 0))
	wantNone(t, summed(allBits, allBits, allBits, allBits, allBits, allBits, allBits))
}

// P8.1: what stands behind the eight words does not matter.
func TestWordsBehindAHead(t *testing.T) {
	for _, x := range known {
		for _, behind := range []uint64{0, 1, 7, magic, x.w[2], x.w[7], 1 << 63, allBits} {
			for _, n := range []int{1, 2, 7, 8, 9, 432} {
				w := slices.Concat(x.w, slices.Repeat([]uint64{behind}, n))
				wantHead(t, w, x.c)
			}
		}
		for _, y := range known {
			wantHead(t, slices.Concat(x.w, y.w), x.c)
		}
	}
}

// P8.1: a head that stands anywhere but at the beginning is none.
func TestHeadBehindOtherWords(t *testing.T) {
	for _, x := range known {
		for n := 1; n <= 16; n++ {
			wantNone(t, slices.Concat(make([]uint64, n), x.w))
		}
		for n := 1; n < 8; n++ {
			wantNone(t, slices.Concat(x.w[8-n:], x.w))
		}
		turnedRound := slices.Clone(x.w)
		slices.Reverse(turnedRound)
		wantNone(t, turnedRound)
	}
}

// others are words that a word of a head may be instead: both ends of a word and its halves, what lies between, and what is near the word itself.
func others(w uint64) []uint64 {
	return []uint64{
		0, 1, 2, 3, 7, 8, 9, 320, 439, 440, 441, 0xff, 0xffff, 1 << 16, 1 << 31, math.MaxUint32, 1 << 32, 1 << 48, 1 << 63, allBits,
		magic, magic + 1, magic - 1, 0x313030455243414e, 0x303031004e414352,
		w + 1, w - 1, w + 8, w - 8, ^w, w << 1, w >> 1, w << 32, w >> 32, w<<32 | w>>32, w | 1<<63, w | 1<<32, w ^ 1<<31, w ^ 0xffffffff, w ^ 0xffffffff<<32,
	}
}

// P8.1: a head of which one word is another, each of the eight in turn, is none, as long as the sum stays.
func TestOneWordIsAnother(t *testing.T) {
	for _, x := range known {
		for at, right := range x.w {
			for _, w := range others(right) {
				if w != right {
					wantNone(t, other(x.w, at, w))
				}
			}
		}
	}
}

// P8.1: a word that is another makes a head none also where the sum is that of the other words: the magic, the version, the number of words and the words 0 must hold each by itself.
func TestOneWordIsAnotherAndTheSumFits(t *testing.T) {
	for _, x := range known {
		for _, at := range []int{0, 1, 3, 4, 5, 6} {
			for _, w := range others(x.w[at]) {
				if w != x.w[at] {
					wantNone(t, otherSummed(x.w, at, w))
				}
			}
			for bit := range 64 {
				wantNone(t, otherSummed(x.w, at, x.w[at]^1<<bit))
			}
		}
		wantHead(t, otherSummed(x.w, 0, magic), x.c)
	}
}

// P8.1: two words that are changed for one another are no head, whether the sum stays or fits.
func TestTwoWordsAreChangedForOneAnother(t *testing.T) {
	for _, x := range known {
		for a := range 8 {
			for b := range a {
				if x.w[a] == x.w[b] {
					continue
				}
				w := other(other(x.w, a, x.w[b]), b, x.w[a])
				wantNone(t, w)
				if a < 7 {
					wantNone(t, summed(w[:7]...))
				}
			}
		}
	}
}

// P8.1: the sum is that of the seven words ahead: not a sum of fewer, nor of more, nor the register, nor one with other bits in the upper half.
func TestSumsThatAreOthers(t *testing.T) {
	for _, x := range known {
		for n := range 7 {
			wantNone(t, other(x.w, 7, summed(x.w[:n]...)[n]))
		}
		wantNone(t, other(x.w, 7, summed(x.w...)[8]))
		wantNone(t, other(x.w, 7, summed(slices.Concat(x.w[:7], []uint64{0})...)[8]))
		wantNone(t, other(x.w, 7, x.w[7]^math.MaxUint32))
		for bit := 32; bit < 64; bit++ {
			wantNone(t, other(x.w, 7, x.w[7]|1<<bit))
		}
		wantNone(t, other(x.w, 7, x.w[7]<<32))
		wantNone(t, other(x.w, 7, x.w[7]<<32|x.w[7]))
	}
}

// P8.1: a configuration's word that is none makes a head none, also where the sum fits, whatever is told of how many words there are.
func TestConfigurationsWordThatIsNone(t *testing.T) {
	none := []uint64{
		0, 1, allBits, magic, 0xffff, 1 << 63,
		0x0000000a00040000, 0x0000000a00040011, 0x0000000a0004ffff,
		0x0000000a00000002, 0x0000000a00030002, 0x0000000a04010002, 0x0000000affff0002,
		0x0000000000040002, 0x0000000900040002, 0x0000001500040002, 0x0000ffff00040002,
		0x0001000a00040002, 0x8000000a00040002, 0xffff000a00040002,
	}
	for _, x := range known {
		for _, w := range none {
			wantNone(t, other(x.w, 2, w))
			wantNone(t, otherSummed(x.w, 2, w))
			for _, words := range []uint64{0, 16, 320, 440, 8296, allBits} {
				wantNone(t, summed(magic, 1, w, words, 0, 0, 0))
			}
		}
	}
}

// P8.1: words that are not right for any configuration are no head, whatever configuration stands there: each one's numbers, laid into the fields as they are.
func TestWrongConfigurationsAreNotDecoded(t *testing.T) {
	for _, c := range wrong {
		for _, words := range []uint64{0, wordsOf(c), 440} {
			w := uint64(c.Threads)&0xffff | uint64(c.Pages)&0xffff<<16 | uint64(c.Shift)<<32
			if w == known[0].w[2] {
				continue
			}
			wantNone(t, summed(magic, 1, w, words, 0, 0, 0))
		}
	}
}

// P8.1: a configuration's word that is another one's makes a head none while the sum, or the number of words, is not the other one's, too; with both it is the other one's head.
func TestConfigurationsWordThatIsAnotherOnes(t *testing.T) {
	eachRight(func(c api.Config) {
		for _, x := range known {
			if c == x.c {
				continue
			}
			wantNone(t, other(x.w, 2, confOf(c)))
			wantNone(t, other(other(x.w, 2, confOf(c)), 3, wordsOf(c)))
			w := otherSummed(x.w, 2, confOf(c))
			if wordsOf(c) == x.w[3] {
				wantHead(t, w, c)
			} else {
				wantNone(t, w)
			}
			wantHead(t, otherSummed(w, 3, wordsOf(c)), c)
		}
	})
}

// P8.2: configurations whose memories have as many words are told apart.
func TestConfigurationsWithAsManyWords(t *testing.T) {
	same := []api.Config{{Threads: 1, Pages: 4, Shift: 10}, {Threads: 1, Pages: 5, Shift: 10}, {Threads: 1, Pages: 4, Shift: 11}, {Threads: 1, Pages: 5, Shift: 20}}
	for _, c := range same {
		w := head.Encode(c)
		if w[3] != 320 {
			t.Fatalf("Encode(%v)[3] = %d", c, w[3])
		}
		wantHead(t, w, c)
	}
}

// P8.2: a head of which one bit is turned is none, each bit in turn, also where words stand behind.
func TestOneTurnedBit(t *testing.T) {
	for _, x := range known {
		for at := range 8 * 64 {
			w := turned(x.w, at, 1)
			wantNone(t, w)
			wantNone(t, append(w, 7))
		}
	}
}

// P8.2: a head of which two bits within 32 in a row are turned is none, each two of them, also in two words.
func TestTwoTurnedBits(t *testing.T) {
	for _, x := range known[:3] {
		for at := range 8 * 64 {
			for apart := 1; apart < 32 && at+apart < 8*64; apart++ {
				wantNone(t, turned(x.w, at, 1|1<<apart))
			}
		}
	}
}

// P8.2: a head of which more bits within 32 in a row are turned is none, at each place, also across two words.
func TestManyTurnedBits(t *testing.T) {
	bursts := []uint32{math.MaxUint32, 0xaaaaaaaa, 0x55555555, 0x80000001, 0xc0000003, 0xffff0001, 0x8000ffff, 0xdeadbeef, 0x82f63b79, 0x82f63b78, 0xf, 0xff, 0xfff, 0xffff, 0xfffff, 0xffffff, 0xfffffff}
	for _, x := range known {
		for at := range 8*64 - 31 {
			for _, burst := range bursts {
				wantNone(t, turned(x.w, at, burst))
			}
		}
	}
}

// P8.2: bits that are turned in a configuration's word so that it becomes another right one's, also with the number of words beside it, are found.
func TestTurnedBitsThatMakeAnotherConfiguration(t *testing.T) {
	c := api.Config{Threads: 2, Pages: 64, Shift: 10}
	w := head.Encode(c)
	eachRight(func(o api.Config) {
		if o != c {
			wantNone(t, other(w, 2, confOf(o)))
		}
	})
	// From the highest bits of the configuration's word into the lowest ones of the number of words.
	for at := 2*64 + 33; at < 3*64; at++ {
		for low := range uint32(64) {
			wantNone(t, turned(w, at, 1|low<<1|1<<31))
		}
	}
}

// P8.1: what is handed in stays, and what was answered is nobody else's.
func TestNothingIsShared(t *testing.T) {
	c := known[0].c
	first := head.Encode(c)
	for at := range first {
		first[at] = allBits
	}
	if again := head.Encode(c); !slices.Equal(again, known[0].w) {
		t.Fatalf("%x", again)
	}
	w := append(slices.Clone(known[0].w), 7, 8)
	ahead := slices.Clone(w)
	wantHead(t, w, c)
	if !slices.Equal(w, ahead) {
		t.Fatalf("%x became %x", ahead, w)
	}
	w[4] = 1
	wantNone(t, w)
	if !slices.Equal(w, other(ahead, 4, 1)) {
		t.Fatalf("%x became %x", ahead, w)
	}
}

// P8.1: the chapter's example.
func TestExample(t *testing.T) {
	w := head.Encode(api.Config{Threads: 2, Pages: 4, Shift: 10})
	if len(w) != 8 || w[3] != 440 {
		t.Fatalf("%x", w)
	}
}
