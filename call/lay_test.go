package call_test

import (
	"math"
	"slices"
	"testing"

	"nacre/api"
	"nacre/call"
	"nacre/fresh"
	"nacre/trial"
)

// P28.2, P28.4: operations are laid by turns in the two calls, with rising numbers, from 1 to the greatest one: so the one ahead is still told, and the one ahead of that is not.
func TestLay(t *testing.T) {
	nums := []int{1, 2, 3, 5, 6, 255, 256, 1 << 16, 1<<16 + 1, 1 << 30, 1<<30 + 5, maxNum - 2, maxNum - 1, maxNum}
	for _, c := range rights {
		for u := range c.Threads {
			m := trial.Memory{Config: c, W: fresh.Words(c)}
			for i, num := range nums {
				m = wantLaid(t, m, u, num, i%2, ops[i])
				wantLast(t, m, u, num, i%2)
				wantSaid(t, m, u, num, ops[i])
				if i > 0 {
					wantSaid(t, m, u, nums[i-1], ops[i-1])
				}
				if i > 1 {
					wantNotSaid(t, c, m.W, u, nums[i-2])
				}
			}
			for _, num := range slices.Concat(nums, farNums) {
				wantNotLaid(t, c, m.W, u, num, trial.Stats())
			}
		}
	}
}

// P28.2, P28.4: whatever the two calls are, what is laid stands in the one that is not the last one, if its number is above that one's; all else is as it was.
func TestLayInTheOtherCall(t *testing.T) {
	for i, c := range rights {
		m := trial.Blank(c, 1, 0)
		u := c.Threads - 1 - i%c.Threads
		for i, first := range words {
			for _, second := range words {
				m.Call(u, 0, first)
				m.Call(u, 1, second)
				last, b := lastOf(first, second)
				for _, num := range []int{last - 1, last, last + 1, last + 2, 5, 6, 7, 1 << 16, maxNum, maxNum + 1} {
					if num > last && num <= maxNum {
						wantLaid(t, m, u, num, 1-b, ops[i%len(ops)])
					} else {
						wantNotLaid(t, c, m.W, u, num, ops[i%len(ops)])
					}
				}
			}
		}
	}
}

// P28.2: where what is laid stands, written out.
func TestLayWrittenOut(t *testing.T) {
	w := make([]uint64, 464)
	w[108], w[116], w[344] = trial.Junk, trial.Junk, trial.Junk
	want := slices.Clone(w)
	for _, x := range []struct {
		u, num int
		o      api.Op
		at     int
		words  [4]uint64
	}{
		{0, 5, api.Op{Kind: 2, A: -1}, 104, [4]uint64{5, 2, 0xffffffffffffffff, 0}},
		{0, 6, api.Op{Kind: 3, A: 1024, B: -50}, 112, [4]uint64{6, 3, 1024, 0xffffffffffffffce}},
		{1, 0x7ffffffe, api.Op{Kind: 1, A: 1 << 32}, 224, [4]uint64{0x7ffffffe, 1, 0x100000000, 0}},
		{0, 7, api.Op{Kind: 8}, 104, [4]uint64{7, 8, 0, 0}},
		{1, 0x7fffffff, api.Op{Kind: 5, A: math.MinInt64, B: 7}, 232, [4]uint64{0x7fffffff, 5, 0x8000000000000000, 7}},
	} {
		copy(want[x.at:], x.words[:])
		got, ok := call.Lay(two, w, x.u, x.num, x.o)
		if !ok || !slices.Equal(got, want) {
			t.Fatalf("with %d, %v of %d the words are %x, %t, not %x", x.num, x.o, x.u, got, ok, want)
		}
		w = got
	}
}

// P28.2: each operation that is right is laid, and told; one that is not right is not laid, whatever its number is.
func TestLayEachOperation(t *testing.T) {
	for _, c := range rights {
		m := called(c)
		for u := range c.Threads {
			for i, o := range ops {
				laid := wantLaid(t, m, u, 8+i, 0, o)
				wantSaid(t, laid, u, 8+i, o)
				wantSaid(t, laid, u, 7, trial.Alloc(9))
			}
			for i, o := range wrongOps {
				wantNotLaid(t, c, m.W, u, 8+i, o)
				wantNotLaid(t, c, m.W, u, maxNum, o)
				wantNotLaid(t, c, m.W, u, 7, o)
			}
		}
	}
}

// P28.2: no other number is laid, also where its low bits are one's that is.
func TestLayNoNumber(t *testing.T) {
	for _, c := range rights {
		blank, m := trial.Memory{Config: c, W: fresh.Words(c)}, called(c)
		for u := range c.Threads {
			for _, num := range farNums {
				for _, o := range []api.Op{trial.Stats(), trial.Alloc(100), {}} {
					wantNotLaid(t, c, blank.W, u, num, o)
					wantNotLaid(t, c, m.W, u, num, o)
				}
			}
			for num := -3; num <= 7; num++ {
				wantNotLaid(t, c, m.W, u, num, trial.Stats())
			}
		}
	}
}

// P28.2: it is laid whatever else the words are, also where they settle to nothing.
func TestLayWhateverElse(t *testing.T) {
	for _, c := range rights {
		for _, other := range []uint64{0, 1, trial.Junk} {
			m := trial.Memory{Config: c, W: slices.Repeat([]uint64{other}, trial.Size(c))}
			b := 0
			if other == 1 {
				// The last call is the second one, as everywhere where both have one number.
				wantNotLaid(t, c, m.W, 0, 1, trial.Stats())
			}
			for u := range c.Threads {
				m = wantLaid(t, m, u, 9, b, trial.Flush(3))
				m = wantLaid(t, m, u, 10, 1-b, trial.Stats())
				wantSaid(t, m, u, 9, trial.Flush(3))
				wantSaid(t, m, u, 10, trial.Stats())
			}
		}
	}
}
