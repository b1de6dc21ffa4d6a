package model_test

import (
	"math"
	"testing"

	"nacre/api"
	"nacre/model"
)

// slotsOf is how many slots a slab of each class has, as chapter 5 has it.
var slotsOf = [api.Classes]int64{32, 21, 16, 10, 8, 5, 4, 3, 2}

// rounded is how many bytes may be used of a block of that size, by the words of chapters 5 and 6; 0, if there is none.
func rounded(c api.Config, size int64) int64 {
	page := int64(1) << c.Shift
	if size < 1 || size > page*int64(c.Pages) {
		return 0
	}
	for _, n := range slotsOf {
		if u := page / n / 16 * 16; u >= size {
			return u
		}
	}
	return (size + page - 1) / page * page
}

// wantRound asks whether Round tells that; 0 is for none.
func wantRound(t *testing.T, c api.Config, size, want int64) {
	t.Helper()
	if got, ok := model.Round(c, size); got != want || ok != (want != 0) {
		t.Fatalf("Round(%v, %d) = %d, %v, not %d", c, size, got, ok, want)
	}
}

// P26.1: the sizes of pages of 1024 bytes, written out, with those one below and above.
func TestRoundWrittenOut(t *testing.T) {
	for _, x := range [][2]int64{
		{1, 32}, {2, 32}, {31, 32}, {32, 32}, {33, 48}, {48, 48}, {49, 64}, {64, 64}, {65, 96}, {96, 96}, {97, 128}, {128, 128},
		{129, 192}, {192, 192}, {193, 256}, {256, 256}, {257, 336}, {336, 336}, {337, 512}, {512, 512}, {513, 1024}, {1023, 1024},
		{1024, 1024}, {1025, 2048}, {2048, 2048}, {2049, 3072}, {7168, 7168}, {7169, 8192}, {8191, 8192}, {8192, 8192},
		{0, 0}, {-1, 0}, {-32, 0}, {8193, 0}, {9216, 0}, {1<<32 + 1, 0}, {-1<<32 + 1, 0}, {math.MinInt64, 0}, {math.MinInt64 + 1, 0}, {math.MaxInt64, 0},
	} {
		wantRound(t, eight, x[0], x[1])
	}
}

// P26.1: the edges of all classes and of all numbers of pages, of each configuration.
func TestRoundAtEdges(t *testing.T) {
	for _, c := range rights {
		var sizes []int64
		for _, n := range slotsOf {
			sizes = append(sizes, 1<<c.Shift/n/16*16)
		}
		for n := range c.Pages + 2 {
			sizes = append(sizes, int64(n)<<c.Shift)
		}
		for _, size := range sizes {
			for _, edge := range []int64{-1, 0, 1} {
				wantRound(t, c, size+edge, rounded(c, size+edge))
			}
		}
	}
}

// P26.1: of a configuration that is not right there is none, whatever the size.
func TestRoundOfNoConfig(t *testing.T) {
	for _, c := range wrongs {
		for _, size := range []int64{1, 0, -1, 32, 512, 513, 1024, 4096, 1 << 20, 1 << 31, 1 << 42, math.MaxInt64, math.MinInt64} {
			wantRound(t, c, size, 0)
		}
	}
}
