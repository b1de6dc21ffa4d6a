package class_test

import (
	"math"
	"slices"
	"testing"

	"nacre/class"
)

// A page has from 2^10 to 2^20 bytes. The numbers are written out: so the tests hold the limits, too.
const (
	leastShift = 10
	mostShift  = 20
	classes    = 9
	grain      = 16
)

// slots is how many slots a slab of each class has, as the document has it.
var slots = []int64{32, 21, 16, 10, 8, 5, 4, 3, 2}

// noClasses are ints that are no class, also those of which the low bits could be one.
var noClasses = []int{-1, -2, -8, -9, 9, 10, 16, 32, 255, 256, 1 << 16, 1<<16 + 4, 1 << 31, 1 << 32, 1<<32 + 4, -1 << 32, -1<<32 + 4, math.MaxInt32, math.MinInt32, math.MaxInt, math.MinInt, math.MinInt + 4}

// noShifts are ints that are no shift, also those of which the low bits could be one.
var noShifts = []int{-1, -10, -20, 0, 1, 8, 9, 21, 22, 31, 32, 62, 63, 64, 65, 74, 256 + 10, 1<<16 + 10, 1<<32 + 10, -1<<32 + 10, 1<<48 + 20, math.MaxInt32, math.MinInt32, math.MaxInt, math.MinInt, math.MinInt + 10}

// pageBytes doubles 1024 bytes, so that it does not lean on how the program reckons a page.
func pageBytes(shift int) int64 {
	bytes := int64(1024)
	for range shift - leastShift {
		bytes += bytes
	}
	return bytes
}

// all calls see with every shift and class.
func all(see func(shift, k int)) {
	for shift := leastShift; shift <= mostShift; shift++ {
		for k := range classes {
			see(shift, k)
		}
	}
}

func wantClass(t *testing.T, shift int, size int64, want int) {
	t.Helper()
	if k, ok := class.Of(shift, size); !ok || k != want {
		t.Fatalf("Of(%d, %d) = %d, %v, want %d", shift, size, k, ok, want)
	}
}

func wantNone(t *testing.T, shift int, size int64) {
	t.Helper()
	if k, ok := class.Of(shift, size); ok || k != 0 {
		t.Fatalf("Of(%d, %d) = %d, %v, want none", shift, size, k, ok)
	}
}

// P5.1: each class has as many slots as the document says; no other int has any.
func TestSlots(t *testing.T) {
	for k, want := range slots {
		if got := class.Slots(k); int64(got) != want {
			t.Fatalf("Slots(%d) = %d, want %d", k, got, want)
		}
	}
	for _, k := range noClasses {
		if got := class.Slots(k); got != 0 {
			t.Fatalf("Slots(%d) = %d", k, got)
		}
	}
}

// P5.1: a size is the greatest multiple of 16 of which as many as there are slots go into a page.
func TestSizesAreCut(t *testing.T) {
	all(func(shift, k int) {
		size := class.Size(shift, k)
		if size <= 0 || size%grain != 0 {
			t.Fatalf("Size(%d, %d) = %d", shift, k, size)
		}
		if slots[k]*size > pageBytes(shift) || slots[k]*(size+grain) <= pageBytes(shift) {
			t.Fatalf("Size(%d, %d) = %d", shift, k, size)
		}
	})
}

// P5.1: the sizes of the least and the greatest page, and of one between.
func TestTables(t *testing.T) {
	tables := map[int][]int64{
		10: {32, 48, 64, 96, 128, 192, 256, 336, 512},
		12: {128, 192, 256, 400, 512, 816, 1024, 1360, 2048},
		20: {32768, 49920, 65536, 104848, 131072, 209712, 262144, 349520, 524288},
	}
	for shift, want := range tables {
		if got := class.Table(shift); !slices.Equal(got, want) {
			t.Fatalf("Table(%d) = %v, want %v", shift, got, want)
		}
	}
}

// P5.1: a table has the size of each class, in order.
func TestTableHasAllSizes(t *testing.T) {
	for shift := leastShift; shift <= mostShift; shift++ {
		table := class.Table(shift)
		if len(table) != classes {
			t.Fatalf("Table(%d) = %v", shift, table)
		}
		for k, size := range table {
			if got := class.Size(shift, k); got != size {
				t.Fatalf("Table(%d) has %d of the class %d, Size has %d", shift, size, k, got)
			}
		}
	}
}

// P5.1: whoever writes into a table that was answered changes no later answer.
func TestTableIsNew(t *testing.T) {
	clear(class.Table(leastShift))
	if got := class.Table(leastShift); got[0] != 32 || got[classes-1] != 512 {
		t.Fatal(got)
	}
	if class.Slots(0) != 32 || class.Size(leastShift, 0) != 32 {
		t.Fatal(class.Slots(0), class.Size(leastShift, 0))
	}
}

// P5.1: what is no class, or no shift, has no size.
func TestNoSize(t *testing.T) {
	for shift := leastShift; shift <= mostShift; shift++ {
		for _, k := range noClasses {
			if got := class.Size(shift, k); got != 0 {
				t.Fatalf("Size(%d, %d) = %d", shift, k, got)
			}
		}
	}
	for _, shift := range noShifts {
		for k := range classes {
			if got := class.Size(shift, k); got != 0 {
				t.Fatalf("Size(%d, %d) = %d", shift, k, got)
			}
		}
		for _, k := range noClasses {
			if got := class.Size(shift, k); got != 0 {
				t.Fatalf("Size(%d, %d) = %d", shift, k, got)
			}
		}
		if got := class.Table(shift); len(got) != 0 {
			t.Fatalf("Table(%d) = %v", shift, got)
		}
	}
}

// P5.2: each size of a class, and one below it, is of that class; one above it is of the next.
func TestOfAtEachSize(t *testing.T) {
	all(func(shift, k int) {
		size := class.Size(shift, k)
		wantClass(t, shift, size, k)
		wantClass(t, shift, size-1, k)
		if k+1 < classes {
			wantClass(t, shift, size+1, k+1)
		} else {
			wantNone(t, shift, size+1)
		}
	})
}

// P5.2: a size of 1 is of the class 0; half a page is of the last class, and one byte more of none.
func TestOfAtTheEnds(t *testing.T) {
	for shift := leastShift; shift <= mostShift; shift++ {
		half := pageBytes(shift) / 2
		wantClass(t, shift, 1, 0)
		wantClass(t, shift, half, classes-1)
		for _, size := range []int64{half + 1, 2 * half, 4 * half, 1 << 31, 1<<32 + 1, 1<<32 + 32, 1<<62 + 1, math.MaxInt64} {
			wantNone(t, shift, size)
		}
		for _, size := range []int64{0, -1, -16, -32, -512, -1 << 31, -1<<32 + 32, math.MinInt64 + 1, math.MinInt64} {
			wantNone(t, shift, size)
		}
	}
}

// P5.2: no size is of a class, if there is no such shift.
func TestOfNoShift(t *testing.T) {
	sizes := []int64{math.MinInt64, -32, -1, 0, 1, 16, 32, 33, 512, 513, 1 << 19, math.MaxInt64}
	for _, shift := range noShifts {
		for _, size := range sizes {
			wantNone(t, shift, size)
		}
	}
}

// P5.3: sizes rise with the class, and the slots of a page go into it.
func TestSizesRiseAndGoIntoThePage(t *testing.T) {
	all(func(shift, k int) {
		size := class.Size(shift, k)
		if k > 0 && size <= class.Size(shift, k-1) {
			t.Fatalf("Size(%d, %d) = %d does not rise", shift, k, size)
		}
		if int64(class.Slots(k))*size > pageBytes(shift) {
			t.Fatalf("%d slots of %d bytes go beyond a page of the shift %d", class.Slots(k), size, shift)
		}
	})
}

// P5.3: the class of every size of the lesser pages is the least one that it goes into.
func TestOfIsTheLeast(t *testing.T) {
	for shift := leastShift; shift <= 14; shift++ {
		for size := int64(1); size <= pageBytes(shift)/2; size++ {
			k, ok := class.Of(shift, size)
			if !ok || class.Size(shift, k) < size {
				t.Fatalf("Of(%d, %d) = %d, %v", shift, size, k, ok)
			}
			if k > 0 && class.Size(shift, k-1) >= size {
				t.Fatalf("Of(%d, %d) = %d is not the least", shift, size, k)
			}
		}
	}
}

// P5.1, P5.2: the chapter's example.
func TestExample(t *testing.T) {
	want := []int64{32, 48, 64, 96, 128, 192, 256, 336, 512}
	if got := class.Table(10); !slices.Equal(got, want) {
		t.Fatal(got)
	}
	wantClass(t, 10, 33, 1)
	wantNone(t, 10, 513)
}
