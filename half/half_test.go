package half_test

import (
	"math"
	"math/bits"
	"slices"
	"testing"

	"nacre/half"
)

const allBits = math.MaxUint64

// halves are both ends of a half, and what lies between.
var halves = []uint32{0, 1, 2, 3, 5, 0xff, 0x7fffffff, 0x80000000, 0x80000001, 0xdeadbeef, 0xaaaaaaaa, 0x55555555, 0xfffffffe, math.MaxUint32}

// words are both ends of a word, and what lies between.
var words = []uint64{0, 1, 0xff, 1 << 31, 1 << 32, 1 << 63, 0x0123456789abcdef, 0xfedcba9876543210, 0xaaaaaaaaaaaaaaaa, allBits - 1, allBits}

// noFields are places and widths that no field of a word has.
var noFields = [][2]int{
	{-1, 1}, {-1, 64}, {-64, 64}, {math.MinInt, 1}, {math.MinInt, math.MaxInt},
	{0, 0}, {5, 0}, {0, -1}, {64, -1}, {3, math.MinInt},
	{64, 0}, {64, 1}, {63, 2}, {60, 5}, {1, 64}, {0, 65}, {32, 33},
	{math.MaxInt, 1}, {1, math.MaxInt}, {math.MaxInt, math.MaxInt}, {math.MinInt, math.MinInt},
}

// fieldBits is the word in which just the bits of a field are 1, laid bit by bit.
func fieldBits(at, width int) uint64 {
	w := uint64(0)
	for bit := at; bit < at+width; bit++ {
		w |= 1 << bit
	}
	return w
}

// eachField calls do with each field of a word.
func eachField(do func(at, width int)) {
	for at := range 64 {
		for width := 1; at+width <= 64; width++ {
			do(at, width)
		}
	}
}

// P1.1: the upper half counts 2^32 each, the lower one 1 each.
func TestJoinIsUpperTimesTwoToThe32AndLower(t *testing.T) {
	for _, x := range []struct {
		hi, lo uint32
		w      uint64
	}{
		{0, 0, 0}, {0, 1, 1}, {1, 0, 4294967296}, {3, 5, 12884901893},
		{0, math.MaxUint32, 4294967295}, {math.MaxUint32, 0, 0xffffffff00000000},
		{math.MaxUint32, math.MaxUint32, allBits}, {0x01234567, 0x89abcdef, 0x0123456789abcdef},
	} {
		if w := half.Join(x.hi, x.lo); w != x.w {
			t.Errorf("Join(%x, %x) = %x, not %x", x.hi, x.lo, w, x.w)
		}
	}
}

// P1.1: Hi and Lo are the numbers of which a word is the Join, both ways.
func TestHiAndLoAreWhatWasJoined(t *testing.T) {
	for _, hi := range halves {
		for _, lo := range halves {
			w := half.Join(hi, lo)
			if half.Hi(w) != hi || half.Lo(w) != lo {
				t.Errorf("of Join(%x, %x): %x, %x", hi, lo, half.Hi(w), half.Lo(w))
			}
		}
	}
	for _, w := range words {
		if got := half.Join(half.Hi(w), half.Lo(w)); got != w {
			t.Errorf("Join of the halves of %x = %x", w, got)
		}
	}
}

// P1.2: the chapter's example, and fields at both ends of a word.
func TestGetAndPutAtTheEndsOfAWord(t *testing.T) {
	for _, x := range []struct {
		w         uint64
		at, width int
		v         uint64
		put       uint64
	}{
		{0, 4, 4, 15, 0xf0},
		{0xff, 2, 3, 0, 0xe3},
		{0, 0, 1, 1, 1},
		{allBits, 0, 1, 0, allBits - 1},
		{0, 63, 1, 1, 1 << 63},
		{allBits, 63, 1, 0, allBits >> 1},
		{5, 0, 64, allBits, allBits},
		{allBits, 0, 64, 0, 0},
		{1, 1, 63, 1<<63 - 1, allBits},
		{0x1111111122222222, 32, 32, 0xffffffff, 0xffffffff22222222},
		{0x1111111122222222, 0, 32, 0xffffffff, 0x11111111ffffffff},
	} {
		put, ok := half.Put(x.w, x.at, x.width, x.v)
		if !ok || put != x.put {
			t.Errorf("Put(%x, %d, %d, %x) = %x, %v, not %x", x.w, x.at, x.width, x.v, put, ok, x.put)
		}
		if v := half.Get(x.put, x.at, x.width); v != x.v {
			t.Errorf("Get(%x, %d, %d) = %x, not %x", x.put, x.at, x.width, v, x.v)
		}
	}
}

// P1.2: Get is the bits of the field, the lowest one first, of each field that there is.
func TestGetOfEachField(t *testing.T) {
	eachField(func(at, width int) {
		for _, w := range words {
			want := uint64(0)
			for i := range width {
				want |= w >> (at + i) & 1 << i
			}
			if got := half.Get(w, at, width); got != want {
				t.Errorf("Get(%x, %d, %d) = %x, not %x", w, at, width, got, want)
			}
		}
	})
}

// P1.2: of a field that there is not Get tells 0, and Put zeros, whatever the word and the number.
func TestFieldsThatThereAreNot(t *testing.T) {
	for _, f := range noFields {
		for _, w := range words {
			if got := half.Get(w, f[0], f[1]); got != 0 {
				t.Errorf("Get(%x, %d, %d) = %x", w, f[0], f[1], got)
			}
			for _, v := range []uint64{0, 1, allBits} {
				if got, ok := half.Put(w, f[0], f[1], v); ok || got != 0 {
					t.Errorf("Put(%x, %d, %d, %x) = %x, %v", w, f[0], f[1], v, got, ok)
				}
			}
		}
	}
}

// P1.2: a number with a 1 from the bit width on does not go in; the greatest one without does.
func TestPutOfWhatDoesNotGoIn(t *testing.T) {
	if got, ok := half.Put(0, 4, 4, 16); ok || got != 0 {
		t.Errorf("Put(0, 4, 4, 16) = %x, %v", got, ok)
	}
	eachField(func(at, width int) {
		greatest := fieldBits(0, width)
		if got, ok := half.Put(0, at, width, greatest); !ok || got != fieldBits(at, width) {
			t.Errorf("Put(0, %d, %d, %x) = %x, %v", at, width, greatest, got, ok)
		}
		for bit := width; bit < 64; bit++ {
			for _, v := range []uint64{1 << bit, 1<<bit | 1, 1<<bit | greatest, fieldBits(bit, 64-bit)} {
				if got, ok := half.Put(allBits, at, width, v); ok || got != 0 {
					t.Errorf("Put(all, %d, %d, %x) = %x, %v", at, width, v, got, ok)
				}
			}
		}
	})
}

// P1.3: Ones and Lowest of 0, of all bits, of single bits, and of others.
func TestOnesAndLowest(t *testing.T) {
	for _, x := range []struct {
		v            uint32
		ones, lowest int
	}{
		{0, 0, -1}, {1, 1, 0}, {2, 1, 1}, {3, 2, 0}, {0xf0, 4, 4}, {0xb, 3, 0},
		{1 << 31, 1, 31}, {3 << 30, 2, 30}, {0x80000001, 2, 0}, {math.MaxUint32 - 1, 31, 1}, {math.MaxUint32, 32, 0},
	} {
		if got := half.Ones(x.v); got != x.ones {
			t.Errorf("Ones(%x) = %d, not %d", x.v, got, x.ones)
		}
		if got := half.Lowest(x.v); got != x.lowest {
			t.Errorf("Lowest(%x) = %d, not %d", x.v, got, x.lowest)
		}
	}
	for place := range 32 {
		for _, above := range halves {
			v := above<<place | 1<<place
			if got := half.Lowest(v); got != place {
				t.Errorf("Lowest(%x) = %d, not %d", v, got, place)
			}
			if got := half.Ones(v); got != bits.OnesCount32(v) {
				t.Errorf("Ones(%x) = %d", v, got)
			}
		}
	}
}

// P1.3: Log below 1, and around each power of two that an int has.
func TestLog(t *testing.T) {
	for _, n := range []int{0, -1, -2, -9, -1 << 31, math.MinInt + 1, math.MinInt} {
		if got := half.Log(n); got != -1 {
			t.Errorf("Log(%d) = %d, not -1", n, got)
		}
	}
	if got := half.Log(9); got != 3 {
		t.Errorf("Log(9) = %d, not 3", got)
	}
	for k := range bits.UintSize - 1 {
		power := 1 << k
		for n, want := range map[int]int{power: k, power - 1: k - 1, power + (power - 1): k} {
			if got := half.Log(n); got != want {
				t.Errorf("Log(%d) = %d, not %d", n, got, want)
			}
		}
	}
	if got := half.Log(math.MaxInt); got != bits.UintSize-2 {
		t.Errorf("Log(%d) = %d", math.MaxInt, got)
	}
}

// P1.3: Free tells the places of zeros, rising, below n, and below 32.
func TestFree(t *testing.T) {
	for _, x := range []struct {
		v    uint32
		n    int
		want []int
	}{
		{0xb, 4, []int{2}},
		{0xf0, 6, []int{0, 1, 2, 3}},
		{0, 3, []int{0, 1, 2}},
		{0, 1, []int{0}},
		{1, 1, nil},
		{0, 0, nil},
		{0, -1, nil},
		{0, math.MinInt, nil},
		{math.MaxUint32, 32, nil},
		{math.MaxUint32, 33, nil},
		{math.MaxUint32, math.MaxInt, nil},
		{math.MaxUint32 >> 1, 31, nil},
		{math.MaxUint32 >> 1, 32, []int{31}},
		{math.MaxUint32 >> 1, 64, []int{31}},
		{math.MaxUint32 >> 1, math.MaxInt, []int{31}},
	} {
		if got := half.Free(x.v, x.n); !slices.Equal(got, x.want) {
			t.Errorf("Free(%x, %d) = %v, not %v", x.v, x.n, got, x.want)
		}
	}
}

// P1.3: Free of each n, place by place.
func TestFreeOfEachNumber(t *testing.T) {
	for _, v := range halves {
		var want []int
		for n := -2; n <= 40; n++ {
			if place := n - 1; place >= 0 && place < 32 && v&(1<<place) == 0 {
				want = append(want, place)
			}
			if got := half.Free(v, n); !slices.Equal(got, want) {
				t.Errorf("Free(%x, %d) = %v, not %v", v, n, got, want)
			}
		}
	}
}

// P1.4: what is put is got, and no bit beside the field changes.
func TestWhatIsPutIsGotAndNothingElseChanges(t *testing.T) {
	eachField(func(at, width int) {
		field := fieldBits(at, width)
		for _, w := range words {
			for _, number := range words {
				v := number & fieldBits(0, width)
				put, ok := half.Put(w, at, width, v)
				if !ok {
					t.Errorf("Put(%x, %d, %d, %x): false", w, at, width, v)
				}
				if got := half.Get(put, at, width); got != v {
					t.Errorf("put %x at %d, %d, got %x", v, at, width, got)
				}
				if put&^field != w&^field {
					t.Errorf("Put(%x, %d, %d, %x) = %x: other bits changed", w, at, width, v, put)
				}
			}
		}
	})
}

// P1.4: the bits that are 1, and those that Free tells, are 32, and none is both.
func TestOnesAndFreeAreAllPlaces(t *testing.T) {
	for _, v := range halves {
		free := half.Free(v, 32)
		if half.Ones(v)+len(free) != 32 {
			t.Errorf("of %x: %d and %d", v, half.Ones(v), len(free))
		}
		all := v
		for _, place := range free {
			all += 1 << place
		}
		if all != math.MaxUint32 {
			t.Errorf("of %x: with %v it is %x", v, free, all)
		}
	}
}
