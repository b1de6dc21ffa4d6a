package op_test

import (
	"math"
	"testing"

	"nacre/api"
	"nacre/op"
	"nacre/trial"
)

// nums are numbers of operations: both ends, and others between.
var nums = []int{0, 1, 2, 7, 255, 256, 1<<16 - 1, 1 << 16, 1<<30 + 1, 1<<31 - 2, 1<<31 - 1}

// noNums are numbers of no operation, also those of which the low bits are one's.
var noNums = []int{
	-1, -2, -7, -1 << 16, -1<<31 + 1, -1 << 31, -1<<31 - 1, -1<<32 + 1, -1 << 32, -1<<32 - 1, -1<<40 + 7, math.MinInt, math.MinInt + 7,
	1 << 31, 1<<31 + 1, 1<<31 + 7, 1<<32 - 1, 1 << 32, 1<<32 + 1, 1<<32 + 7, 1 << 40, 1<<62 + 7, math.MaxInt - 1, math.MaxInt,
}

// values are what a cell may have: both ends, and others between.
var values = []uint32{0, 1, 2, 3, 12, 13, 1024, 1<<16 - 1, 1 << 16, 1<<31 - 1, 1 << 31, 1<<31 + 1, math.MaxUint32 - 1, math.MaxUint32}

// noValues are what no cell may have, also those of which the low bits are a value's.
var noValues = []int64{
	-1, -2, -12, -1 << 16, -1<<31 + 1, -1 << 31, -1<<32 + 1, -1 << 32, -1<<32 - 1, -1<<32 + 12, -1<<40 + 3, math.MinInt64, math.MinInt64 + 3,
	1 << 32, 1<<32 + 1, 1<<32 + 12, 1 << 33, 1<<33 - 1, 1 << 40, 1<<62 + 3, math.MaxInt64 - 1, math.MaxInt64,
}

// wantVals asks whether these are the values of a number and a result, and lead back to them.
func wantVals(t *testing.T, num int, r api.Result, want [4]uint32) {
	t.Helper()
	if got, ok := op.Vals(num, r); !ok || got != want {
		t.Fatalf("Vals(%d, %v) = %v, %t, not %v, true", num, r, got, ok, want)
	}
	wantOfVals(t, want, num, r)
}

// wantOfVals asks whether values are this number and this result.
func wantOfVals(t *testing.T, v [4]uint32, num int, r api.Result) {
	t.Helper()
	if n, got := op.OfVals(v); n != num || got != r {
		t.Fatalf("OfVals(%v) = %d, %v, not %d, %v", v, n, got, num, r)
	}
}

// wantNoVals asks whether a number and a result have no values.
func wantNoVals(t *testing.T, num int, r api.Result) {
	t.Helper()
	if got, ok := op.Vals(num, r); ok || got != [4]uint32{} {
		t.Fatalf("Vals(%d, %v) = %v, %t, not zeros, false", num, r, got, ok)
	}
}

// P22.2: numbers and results, and their values, written out.
func TestKnownVals(t *testing.T) {
	wantVals(t, 0, api.Result{}, [4]uint32{})
	wantVals(t, 1, api.Result{Out: 1024, Aux: 128}, [4]uint32{1, 0, 1024, 128})
	wantVals(t, 7, api.Result{Err: api.ErrRoom, Out: 1 << 31}, [4]uint32{7, 3, 0x80000000, 0})
	wantVals(t, 1, api.Result{Err: 2, Out: 3, Aux: 4}, [4]uint32{1, 2, 3, 4})
	wantVals(t, api.MaxNum, api.Result{Err: api.ErrNil, Aux: 1<<32 - 1}, [4]uint32{0x7fffffff, 12, 0, 0xffffffff})
	wantVals(t, 5, api.Result{Err: 1<<32 - 1, Out: 1<<32 - 1}, [4]uint32{5, 0xffffffff, 0xffffffff, 0})
}

// P22.2, P22.3: every number with every Err, Out and Aux that are values, both ways.
func TestAllThatAreValues(t *testing.T) {
	for _, num := range nums {
		for _, e := range values {
			for _, out := range values {
				for _, aux := range values {
					wantVals(t, num, api.Result{Err: api.Errno(e), Out: int64(out), Aux: int64(aux)}, [4]uint32{uint32(num), e, out, aux})
				}
			}
		}
	}
}

// P22.2: a number below 0, or above MaxNum, has no values, whatever the result.
func TestNoNumbers(t *testing.T) {
	for _, num := range noNums {
		for _, n := range values {
			wantNoVals(t, num, api.Result{})
			wantNoVals(t, num, api.Result{Err: api.Errno(n), Out: int64(n), Aux: int64(n)})
		}
	}
}

// P22.2: a result of which one thing, or several, are below 0, or from 2^32 on, has no values, whatever the number.
func TestResultsThatAreNoValues(t *testing.T) {
	for _, num := range append([]int{-1, 1 << 31}, nums...) {
		for _, n := range noValues {
			for _, v := range values {
				e, fits := api.Errno(n), int64(v)
				wantNoVals(t, num, api.Result{Err: e, Out: fits, Aux: fits})
				wantNoVals(t, num, api.Result{Err: api.Errno(v), Out: n, Aux: fits})
				wantNoVals(t, num, api.Result{Err: api.Errno(v), Out: fits, Aux: n})
				wantNoVals(t, num, api.Result{Err: e, Out: n, Aux: fits})
				wantNoVals(t, num, api.Result{Err: e, Out: fits, Aux: n})
				wantNoVals(t, num, api.Result{Err: api.Errno(v), Out: n, Aux: n})
				wantNoVals(t, num, api.Result{Err: e, Out: n, Aux: n})
			}
		}
	}
}

// P22.2: any values are a number and a result, also those of a number above MaxNum, which Vals does not have.
func TestAnyValues(t *testing.T) {
	for _, num := range values {
		for _, n := range values {
			v := [4]uint32{num, n, n ^ 5, n ^ 1<<31}
			r := api.Result{Err: api.Errno(n), Out: int64(n ^ 5), Aux: int64(n ^ 1<<31)}
			wantOfVals(t, v, int(num), r)
			if num > math.MaxInt32 {
				wantNoVals(t, int(num), r)
			} else {
				wantVals(t, int(num), r, v)
			}
		}
	}
}

// P22.1, P22.2, P22.3: by chance: what is put is got, and the other way round.
func TestThereAndBack(t *testing.T) {
	by := trial.Chance(22)
	word := func() uint64 { return uint64(by.Bits())<<32 | uint64(by.Bits()) }
	for range 20000 {
		w := [3]uint64{uint64(by.Next(12)), word(), word()}
		if by.Next(3) > 0 && w[0] < 10 {
			clear(w[1+max(uses[w[0]], 0):])
		}
		if o, ok := op.Of(w); ok && op.Words(o) != w {
			t.Fatalf("Of(%x) = %v, and its words are %x", w, o, op.Words(o))
		} else if want := w[0] > 0 && w[0] < 10 && (w[1] == 0 || uses[w[0]] > 0) && (w[2] == 0 || uses[w[0]] > 1); ok != want {
			t.Fatalf("Of(%x) = %v, %t", w, o, ok)
		}
		v := [4]uint32{by.Bits(), by.Bits(), by.Bits(), by.Bits()}
		num, r := op.OfVals(v)
		if back, ok := op.Vals(num, r); ok != (v[0] < 1<<31) || ok && back != v {
			t.Fatalf("of %v the number is %d, and the result %v: their values %v, %t", v, num, r, back, ok)
		}
	}
}
