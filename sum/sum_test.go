package sum_test

import (
	"encoding/binary"
	"hash/crc32"
	"math"
	"slices"
	"testing"

	"nacre/sum"
)

const (
	allBits    = math.MaxUint64
	polynomial = 0x82F63B78
)

// registers are both ends of a register, and what lies between.
var registers = []uint32{0, 1, 2, 3, 0x80, 0x7fffffff, 0x80000000, 0x80000001, 0xdeadbeef, 0xaaaaaaaa, 0x55555555, polynomial, ^uint32(polynomial), math.MaxUint32 - 1, math.MaxUint32}

// words are both ends of a word, its halves, and what lies between.
var words = []uint64{0, 1, 2, 7, 0xff, 1 << 31, math.MaxUint32, 1 << 32, math.MaxUint32 << 32, 1 << 63, 0x4e41435245303031, 0x0123456789abcdef, 0xfedcba9876543210, 0xaaaaaaaaaaaaaaaa, 0x5555555555555555, allBits - 1, allBits}

// castagnoli is the register behind a word as the library reckons it, which turns all bits ahead and behind.
func castagnoli(reg uint32, w uint64) uint32 {
	b := binary.LittleEndian.AppendUint64(nil, w)
	return ^crc32.Update(^reg, crc32.MakeTable(crc32.Castagnoli), b)
}

// stepped is the register behind a word, bit by bit, as the chapter tells it.
func stepped(reg uint32, w uint64) uint32 {
	for bit := 0; bit < 64; bit++ {
		if w&(1<<bit) != 0 {
			reg ^= 1
		}
		out := reg%2 == 1
		reg /= 2
		if out {
			reg ^= polynomial
		}
	}
	return reg
}

// mixed is n words that a fixed rule tells, without a pattern.
func mixed(n int) []uint64 {
	w := make([]uint64, n)
	x := uint64(0x9e3779b97f4a7c15)
	for i := range w {
		x ^= x << 13
		x ^= x >> 7
		x ^= x << 17
		w[i] = x
	}
	return w
}

// turned is a copy of words in which the bits are turned that are 1 in burst, laid from the bit at of all of them on.
func turned(w []uint64, at int, burst uint32) []uint64 {
	t := slices.Clone(w)
	for bit := range 32 {
		if burst>>bit&1 == 1 {
			t[(at+bit)/64] ^= 1 << ((at + bit) % 64)
		}
	}
	return t
}

// P2.1: all bits of the register are 1 ahead of all words.
func TestFirstIsAllOnes(t *testing.T) {
	if got := sum.First(); got != 0xffffffff {
		t.Errorf("First() = %x", got)
	}
}

// P2.1: registers behind words that can be followed by hand.
func TestNextByHand(t *testing.T) {
	for _, x := range []struct {
		reg  uint32
		w    uint64
		want uint32
	}{
		{0, 0, 0},
		{0, 1 << 63, polynomial},      // the last bit that goes in falls out at once
		{0, 1 << 62, polynomial >> 1}, // and is moved once behind the one ahead
		{0, 1 << 61, polynomial >> 2}, // and twice
		{0, 1 << 60, polynomial >> 3}, // till a bit of it falls out
		{0, 1 << 59, 0x82f63b78>>4 ^ polynomial},
		{0, 3 << 62, polynomial ^ polynomial>>1},
		{0xffffffff, 0xffffffff, 0}, // the lower half turns each bit of the register to 0 before it falls out
		{0xdeadbeef, 0xdeadbeef, 0},
		{1, 1, 0},
		{0x80000000, 0x80000000, 0},
		{0xffffffff, 0x80000000ffffffff, polynomial},
		{0xdeadbeef, 0x80000000deadbeef, polynomial},
	} {
		if got := sum.Next(x.reg, x.w); got != x.want {
			t.Errorf("Next(%x, %x) = %x, not %x", x.reg, x.w, got, x.want)
		}
	}
}

// P2.1: Next of each register and word is what the chapter's steps come to, and CRC-32C.
func TestNextOfEachRegisterAndWord(t *testing.T) {
	for _, reg := range registers {
		for _, w := range slices.Concat(words, mixed(20)) {
			got := sum.Next(reg, w)
			if want := stepped(reg, w); got != want {
				t.Errorf("Next(%x, %x) = %x, not %x", reg, w, got, want)
			}
			if want := castagnoli(reg, w); got != want {
				t.Errorf("Next(%x, %x) = %x, by the library %x", reg, w, got, want)
			}
		}
	}
}

// P2.1: each single bit of a word, and of a register, tells.
func TestNextOfEachBit(t *testing.T) {
	for bit := range 64 {
		w := uint64(1) << bit
		if got, want := sum.Next(0, w), stepped(0, w); got != want {
			t.Errorf("Next(0, %x) = %x, not %x", w, got, want)
		}
	}
	for bit := range 32 {
		reg := uint32(1) << bit
		if got, want := sum.Next(reg, 0), stepped(reg, 0); got != want {
			t.Errorf("Next(%x, 0) = %x, not %x", reg, got, want)
		}
	}
}

// P2.1: the sum is the register with all bits turned.
func TestLastTurnsAllBits(t *testing.T) {
	for _, x := range []struct{ reg, want uint32 }{
		{0, 0xffffffff}, {0xffffffff, 0}, {1, 0xfffffffe}, {0x80000000, 0x7fffffff}, {0xaaaaaaaa, 0x55555555}, {0x01234567, 0xfedcba98},
	} {
		if got := sum.Last(x.reg); got != x.want {
			t.Errorf("Last(%x) = %x, not %x", x.reg, got, x.want)
		}
	}
	for _, reg := range registers {
		if got := sum.Last(sum.Last(reg)); got != reg {
			t.Errorf("Last twice of %x = %x", reg, got)
		}
	}
}

// P2.2: the chapter's examples, and CRC-32C's known sums.
func TestOfKnownWords(t *testing.T) {
	rising := []uint64{0x0706050403020100, 0x0f0e0d0c0b0a0908, 0x1716151413121110, 0x1f1e1d1c1b1a1918}
	falling := []uint64{0x18191a1b1c1d1e1f, 0x1011121314151617, 0x08090a0b0c0d0e0f, 0x0001020304050607}
	for _, x := range []struct {
		w    []uint64
		want uint32
	}{
		{nil, 0},
		{[]uint64{}, 0},
		{[]uint64{0, 0, 0, 0}, 0x8a9136aa},
		{[]uint64{allBits, allBits, allBits, allBits}, 0x62a8ab43},
		{rising, 0x46dd794e},
		{falling, 0x113fdb5c},
		{[]uint64{math.MaxUint32}, 0xffffffff},
	} {
		if got := sum.Of(x.w...); got != x.want {
			t.Errorf("Of(%x) = %x, not %x", x.w, got, x.want)
		}
	}
	if got := sum.Of(); got != 0 {
		t.Errorf("Of() = %x", got)
	}
}

// P2.2: of one word it is Last of the register behind it.
func TestOfOneWord(t *testing.T) {
	for _, w := range words {
		want := ^stepped(0xffffffff, w)
		if got := sum.Of(w); got != want {
			t.Errorf("Of(%x) = %x, not %x", w, got, want)
		}
		if got := sum.Last(sum.Next(sum.First(), w)); got != want {
			t.Errorf("by hand of %x: %x, not %x", w, got, want)
		}
	}
}

// P2.2: of each number of words it is Last of the register behind all of them.
func TestOfManyWords(t *testing.T) {
	long := slices.Concat(words, mixed(300))
	reg := sum.First()
	for n, w := range long {
		if got := sum.Of(long[:n]...); got != sum.Last(reg) {
			t.Errorf("Of %d words = %x, not %x", n, got, sum.Last(reg))
		}
		reg = sum.Next(reg, w)
	}
	all := make([]uint64, 1<<16)
	reg = sum.First()
	for range all {
		reg = castagnoli(reg, 0)
	}
	if got := sum.Of(all...); got != ^reg {
		t.Errorf("Of as many words 0 as a memory has = %x, not %x", got, ^reg)
	}
}

// P2.2: the order of words tells, and how many there are, of words 0, too.
func TestOrderAndNumberOfWordsTell(t *testing.T) {
	if sum.Of(1, 2) == sum.Of(2, 1) {
		t.Error("the order does not tell")
	}
	if got, want := sum.Of(1, 2), ^stepped(stepped(0xffffffff, 1), 2); got != want {
		t.Errorf("Of(1, 2) = %x, not %x", got, want)
	}
	seen := map[uint32]int{}
	for n := range 64 {
		s := sum.Of(make([]uint64, n)...)
		if other, ok := seen[s]; ok {
			t.Errorf("%d and %d words 0 have the sum %x", other, n, s)
		}
		seen[s] = n
	}
}

// P2.2: the words that are handed in stay, and the same words have the same sum again.
func TestOfChangesNothing(t *testing.T) {
	w := mixed(9)
	ahead := slices.Clone(w)
	first := sum.Of(w...)
	if !slices.Equal(w, ahead) {
		t.Errorf("%x became %x", ahead, w)
	}
	if again := sum.Of(w...); again != first {
		t.Errorf("first %x, then %x", first, again)
	}
}

// P2.3: one bit that is turned, or two within 32 in a row, at each place: also those that stand in two words.
func TestOneOrTwoTurnedBitsTell(t *testing.T) {
	for _, w := range [][]uint64{{0}, {allBits}, {0, 0, 0}, {allBits, allBits, allBits}, mixed(4)} {
		of := sum.Of(w...)
		for first := range 64 * len(w) {
			for apart := range min(32, 64*len(w)-first) {
				other := turned(w, first, 1|1<<apart)
				if sum.Of(other...) == of {
					t.Fatalf("%x and %x have the sum %x", w, other, of)
				}
			}
		}
	}
}

// P2.3: bits that are turned within 32 in a row, in many ways, at each place of a head's words.
func TestTurnedBitsWithin32InARowTell(t *testing.T) {
	bursts := []uint32{math.MaxUint32, 0xaaaaaaaa, 0x55555555, 0x80000001, 0xc0000003, 0xffff0000, 0x0000ffff, polynomial, polynomial>>1 | 1<<31, polynomial<<1&math.MaxUint32 | 1}
	for _, w := range mixed(30) {
		bursts = append(bursts, uint32(w>>32), uint32(w))
	}
	for _, w := range [][]uint64{make([]uint64, 7), mixed(7)} {
		of := sum.Of(w...)
		for at := range 64*len(w) - 31 {
			for _, burst := range bursts {
				if sum.Of(turned(w, at, burst)...) == of {
					t.Fatalf("%x, turned by %x at %d, keeps the sum %x", w, burst, at, of)
				}
			}
		}
	}
}

// P2.3: unlike halves of one word, laid in the same place, all have unlike sums: none of a great many is told twice.
func TestUnlikeHalvesHaveUnlikeSums(t *testing.T) {
	for _, at := range []int{0, 1, 16, 31, 32} {
		seen := map[uint32]uint64{}
		for n := range uint64(1 << 14) {
			w := n * 0x9e3779b1 & math.MaxUint32 << at // an odd factor: no half comes twice
			s := sum.Of(w)
			if other, ok := seen[s]; ok {
				t.Fatalf("%x and %x have the sum %x", other, w, s)
			}
			seen[s] = w
		}
	}
}
