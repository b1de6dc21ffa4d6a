// Package half is layer 1: it parts words, and puts them together.
package half

// How many bits a word, and a half of it, have.
const (
	wordBits = 64
	halfBits = 32
)

// Join is the word of an upper and a lower half.
func Join(hi, lo uint32) uint64 {
	return uint64(hi)<<halfBits | uint64(lo)
}

// Hi is the upper half of a word.
func Hi(w uint64) uint32 {
	return uint32(w >> halfBits)
}

// Lo is the lower half of a word.
func Lo(w uint64) uint32 {
	return uint32(w)
}

// Get is the number that a field of a word is; 0, if there is no such field.
func Get(w uint64, at, width int) uint64 {
	if !isField(at, width) {
		return 0
	}
	return w >> at & lowBits(width)
}

// Put is a word whose field is v; false, if there is no such field, or v does not go into it.
func Put(w uint64, at, width int, v uint64) (uint64, bool) {
	if !isField(at, width) || v > lowBits(width) {
		return 0, false
	}
	return w&^(lowBits(width)<<at) | v<<at, true
}

// isField tells whether a word has width bits from the bit at on.
func isField(at, width int) bool {
	// The sum of at and width is not reckoned: it may go beyond an int.
	return at >= 0 && width >= 1 && at <= wordBits-width
}

// lowBits is a word whose lowest width bits are 1, for a width from 1 to 64.
func lowBits(width int) uint64 {
	// Of 64 the 1 is moved out, and 0 less 1 is all bits.
	return uint64(1)<<width - 1
}

// isOne tells whether the bit at, from 0 to 31, is 1.
func isOne(v uint32, at int) bool {
	return v>>at&1 == 1
}

// Ones is how many bits of v are 1.
func Ones(v uint32) int {
	ones := 0
	for at := range halfBits {
		if isOne(v, at) {
			ones++
		}
	}
	return ones
}

// Lowest is the place of the lowest bit of v that is 1; -1, if none is.
func Lowest(v uint32) int {
	for at := range halfBits {
		if isOne(v, at) {
			return at
		}
	}
	return -1
}

// Log is the greatest k of which 2^k is at most n; -1, if n is below 1.
func Log(n int) int {
	log := -1
	for k := range wordBits {
		// n is moved, not 1: so no power is reckoned that is beyond an int.
		if n>>k < 1 {
			break
		}
		log = k
	}
	return log
}

// Free is the places of the bits of v that are 0, rising: those below n, and below 32.
func Free(v uint32, n int) []int {
	var free []int
	for at := range min(n, halfBits) {
		if !isOne(v, at) {
			free = append(free, at)
		}
	}
	return free
}
