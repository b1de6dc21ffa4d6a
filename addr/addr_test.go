package addr_test

import (
	"math"
	"testing"

	"nacre/addr"
	"nacre/api"
)

// A heap has from 4 to 1024 pages of from 2^10 to 2^20 bytes. The numbers are written out: so the tests hold the limits, too.
const (
	leastPages = 4
	mostPages  = 1024
	leastShift = 10
	mostShift  = 20
	classes    = 9
)

// slots is how many slots a slab of each class has, as the document has it.
var slots = []int64{32, 21, 16, 10, 8, 5, 4, 3, 2}

// farInts are ints that are no page, class or slot, also those of which the low bits could be one, and those whose multiples wrap round.
var farInts = []int{-1, -2, -3, -4, -31, -32, -1024, -1 << 31, -1 << 32, -1<<32 + 1, -1 << 44, -1 << 54, -1<<54 + 1, -1 << 59, 1 << 16, 1<<16 + 1, 1 << 31, 1<<31 + 1, 1 << 32, 1<<32 + 1, 1 << 43, 1<<44 - 1, 1 << 44, 1<<44 + 1, 1<<53 - 1, 1 << 53, 1<<54 - 1, 1 << 54, 1<<54 + 1, 1 << 59, 1<<59 + 1, 1 << 60, 1 << 62, math.MaxInt - 1, math.MaxInt, math.MinInt, math.MinInt + 1, math.MinInt + 2}

// farBytes are numbers that are no byte of a page, no address and no size, whatever the configuration.
var farBytes = []int64{-1, -2, -16, -32, -48, -1023, -1024, -1025, -2048, -1 << 20, -1 << 31, -1 << 32, -1<<32 + 32, 1<<31 - 1, 1 << 31, 1 << 32, 1<<32 + 32, 1<<32 + 1024, 1<<62 + 1024, 1 << 62, math.MaxInt64 - 1024, math.MaxInt64 - 1, math.MaxInt64, math.MinInt64, math.MinInt64 + 1, math.MinInt64 + 1024, math.MinInt64 + 2048}

// pageBytes doubles 1024 bytes, so that it does not lean on how the program reckons a page.
func pageBytes(shift int) int64 {
	bytes := int64(1024)
	for range shift - leastShift {
		bytes += bytes
	}
	return bytes
}

// slotBytes is the greatest multiple of 16 of which as many as a class has slots go into a page.
func slotBytes(shift, k int) int64 {
	bytes := int64(0)
	for slots[k]*(bytes+16) <= pageBytes(shift) {
		bytes += 16
	}
	return bytes
}

// right calls see with configurations that are right: the numbers of each at both ends, and between.
func right(see func(c api.Config)) {
	for shift := leastShift; shift <= mostShift; shift++ {
		for _, pages := range []int{leastPages, leastPages + 1, 64, 100, mostPages - 1, mostPages} {
			for _, threads := range []int{1, 2, 16} {
				see(api.Config{Threads: threads, Pages: pages, Shift: shift})
			}
		}
	}
}

// wrong are configurations of which one number, or all, may not be, each just beyond an end, and far.
func wrong() []api.Config {
	all := []api.Config{{}, {Threads: -1, Pages: -1, Shift: -1}, {Threads: 17, Pages: 1025, Shift: 21}}
	for _, threads := range append([]int{0, 17}, farInts...) {
		all = append(all, api.Config{Threads: threads, Pages: 8, Shift: 10})
	}
	for _, pages := range append([]int{0, 1, 3, 1025, 2048}, farInts...) {
		all = append(all, api.Config{Threads: 2, Pages: pages, Shift: 10})
	}
	for _, shift := range append([]int{0, 1, 9, 21, 22, 62, 63, 64, 74}, farInts...) {
		all = append(all, api.Config{Threads: 2, Pages: 8, Shift: shift})
	}
	return all
}

func wantOf(t *testing.T, c api.Config, page int, off, want int64) {
	t.Helper()
	if a, ok := addr.Of(c, page, off); !ok || a != want {
		t.Fatalf("Of(%v, %d, %d) = %d, %v, want %d", c, page, off, a, ok, want)
	}
}

func wantNoOf(t *testing.T, c api.Config, page int, off int64) {
	t.Helper()
	if a, ok := addr.Of(c, page, off); ok || a != 0 {
		t.Fatalf("Of(%v, %d, %d) = %d, %v, want none", c, page, off, a, ok)
	}
}

func wantPage(t *testing.T, c api.Config, a int64, page int, off int64) {
	t.Helper()
	if p, o, ok := addr.Page(c, a); !ok || p != page || o != off {
		t.Fatalf("Page(%v, %d) = %d, %d, %v, want %d, %d", c, a, p, o, ok, page, off)
	}
}

func wantNoPage(t *testing.T, c api.Config, a int64) {
	t.Helper()
	if p, o, ok := addr.Page(c, a); ok || p != 0 || o != 0 {
		t.Fatalf("Page(%v, %d) = %d, %d, %v, want none", c, a, p, o, ok)
	}
}

func wantSlot(t *testing.T, c api.Config, k int, off int64, want int) {
	t.Helper()
	if s, ok := addr.Slot(c, k, off); !ok || s != want {
		t.Fatalf("Slot(%v, %d, %d) = %d, %v, want %d", c, k, off, s, ok, want)
	}
}

func wantNoSlot(t *testing.T, c api.Config, k int, off int64) {
	t.Helper()
	if s, ok := addr.Slot(c, k, off); ok || s != 0 {
		t.Fatalf("Slot(%v, %d, %d) = %d, %v, want none", c, k, off, s, ok)
	}
}

func wantAt(t *testing.T, c api.Config, k, page, slot int, want int64) {
	t.Helper()
	if a, ok := addr.At(c, k, page, slot); !ok || a != want {
		t.Fatalf("At(%v, %d, %d, %d) = %d, %v, want %d", c, k, page, slot, a, ok, want)
	}
}

func wantNoAt(t *testing.T, c api.Config, k, page, slot int) {
	t.Helper()
	if a, ok := addr.At(c, k, page, slot); ok || a != 0 {
		t.Fatalf("At(%v, %d, %d, %d) = %d, %v, want none", c, k, page, slot, a, ok)
	}
}

func wantPages(t *testing.T, c api.Config, size int64, want int) {
	t.Helper()
	if n, ok := addr.Pages(c, size); !ok || n != want {
		t.Fatalf("Pages(%v, %d) = %d, %v, want %d", c, size, n, ok, want)
	}
}

func wantNoPages(t *testing.T, c api.Config, size int64) {
	t.Helper()
	if n, ok := addr.Pages(c, size); ok || n != 0 {
		t.Fatalf("Pages(%v, %d) = %d, %v, want none", c, size, n, ok)
	}
}

// P6.1, P6.4: the bytes of the pages have, page by page, the addresses one behind the other, from as many as a page has of bytes on; each address is one byte's.
func TestAddressesGoUpOneByOne(t *testing.T) {
	for _, c := range []api.Config{{Threads: 1, Pages: 4, Shift: 10}, {Threads: 16, Pages: 7, Shift: 11}, {Threads: 2, Pages: 64, Shift: 12}} {
		bytes := pageBytes(c.Shift)
		a := bytes
		for page := range c.Pages {
			for off := range bytes {
				wantOf(t, c, page, off, a)
				wantPage(t, c, a, page, off)
				a++
			}
		}
		wantNoPage(t, c, a)
		wantNoPage(t, c, bytes-1)
	}
}

// P6.1: the first and the last page and byte have addresses, and one beyond each has none.
func TestAddressesAtTheEnds(t *testing.T) {
	right(func(c api.Config) {
		bytes := pageBytes(c.Shift)
		for _, page := range []int{0, 1, c.Pages / 2, c.Pages - 1} {
			first := (int64(page) + 1) * bytes
			for _, off := range []int64{0, 1, bytes / 2, bytes - 1} {
				wantOf(t, c, page, off, first+off)
				wantPage(t, c, first+off, page, off)
			}
			for _, off := range []int64{-bytes, -1, bytes, bytes + 1, 2 * bytes, -2 * bytes} {
				wantNoOf(t, c, page, off)
			}
		}
		for _, off := range []int64{0, 1, bytes - 1} {
			wantNoOf(t, c, -1, off)
			wantNoOf(t, c, c.Pages, off)
		}
		end := (int64(c.Pages) + 1) * bytes
		for _, a := range []int64{-bytes, 0, 1, bytes - 1, end, end + 1, end + bytes} {
			wantNoPage(t, c, a)
		}
	})
}

// P6.1: no page and no byte that is far off has an address, also where the reckoned one would wrap round to that of a byte.
func TestNoAddressFarOff(t *testing.T) {
	right(func(c api.Config) {
		for _, page := range farInts {
			for _, off := range append([]int64{0, 5, pageBytes(c.Shift) - 1}, farBytes...) {
				wantNoOf(t, c, page, off)
			}
			// Where the sum comes back to the first byte's address.
			wantNoOf(t, c, page, -int64(page)*pageBytes(c.Shift))
		}
		for _, off := range farBytes {
			for _, page := range []int{-1, 0, 1, c.Pages - 1, c.Pages} {
				wantNoOf(t, c, page, off)
			}
			wantNoPage(t, c, off)
		}
	})
}

// P6.1: a byte of a page is not one of the page beside it, though the sum would be that one's address.
func TestNoByteOfThePageBeside(t *testing.T) {
	right(func(c api.Config) {
		bytes := pageBytes(c.Shift)
		wantNoOf(t, c, 0, bytes)
		wantNoOf(t, c, 1, -1)
		wantNoOf(t, c, -1, bytes)
		wantNoOf(t, c, -1, 2*bytes-1)
		wantNoOf(t, c, c.Pages, -1)
		wantNoOf(t, c, c.Pages, -bytes)
		wantNoOf(t, c, c.Pages-1, -5)
	})
}

// P6.1 to P6.3: of a configuration that is not right there is nothing.
func TestWrongConfigurations(t *testing.T) {
	numbers := append([]int64{0, 1, 5, 16, 32, 48, 512, 1023, 1024, 1025, 1029, 2048, 8191, 8192, 9215, 1 << 20}, farBytes...)
	ints := append([]int{0, 1, 2, 3, 7, 8, 9, 31, 32}, farInts...)
	for _, c := range wrong() {
		for _, n := range numbers {
			for _, i := range []int{-1, 0, 1, 3, 7, 8, 1024, math.MinInt, math.MaxInt} {
				wantNoOf(t, c, i, n)
				wantNoSlot(t, c, i, n)
			}
			wantNoPage(t, c, n)
			wantNoPages(t, c, n)
		}
		for _, i := range ints {
			wantNoAt(t, c, i, 0, 0)
			wantNoAt(t, c, 1, i, 0)
			wantNoAt(t, c, 1, 0, i)
		}
	}
}

// P6.2: the slots of each class begin one behind the other, from the byte 0 on; there is none ahead of the first or behind the last.
func TestSlots(t *testing.T) {
	right(func(c api.Config) {
		for k := range classes {
			size := slotBytes(c.Shift, k)
			for s := range slots[k] {
				wantSlot(t, c, k, s*size, int(s))
				for _, off := range []int64{s*size - 1, s*size + 1, s*size + 16, s*size + size/2} {
					wantNoSlot(t, c, k, off)
				}
			}
			for _, off := range []int64{-slots[k] * size, -2 * size, -size, slots[k] * size, (slots[k] + 1) * size, 64 * size, size << 32, pageBytes(c.Shift)} {
				wantNoSlot(t, c, k, off)
			}
			for _, off := range farBytes {
				wantNoSlot(t, c, k, off)
			}
		}
	})
}

// P6.2: of all bytes of a page as many begin a slot as there are slots, in order.
func TestSlotOfEachByte(t *testing.T) {
	for shift := leastShift; shift <= 13; shift++ {
		c := api.Config{Threads: 2, Pages: 8, Shift: shift}
		for k := range classes {
			next := 0
			for off := range pageBytes(shift) {
				s, ok := addr.Slot(c, k, off)
				if !ok && s != 0 || ok && s != next {
					t.Fatalf("Slot(%v, %d, %d) = %d, %v, want %d", c, k, off, s, ok, next)
				}
				if ok {
					next++
				}
			}
			if int64(next) != slots[k] {
				t.Fatalf("%d bytes of a page of the shift %d begin slots of the class %d", next, shift, k)
			}
		}
	}
}

// P6.2: no slot begins anywhere, and none has an address, if there is no such class.
func TestNoSuchClass(t *testing.T) {
	for _, k := range append([]int{9, 10, 16, 32, 256, 1024}, farInts...) {
		right(func(c api.Config) {
			for _, off := range []int64{-32, -1, 0, 1, 16, 32, 48, 512} {
				wantNoSlot(t, c, k, off)
			}
			for _, slot := range []int{-1, 0, 1, 31, 32} {
				wantNoAt(t, c, k, 0, slot)
			}
		})
	}
}

// P6.2: the address of a slot is that of the byte at which it begins; one beyond each end has none.
func TestAddressesOfSlots(t *testing.T) {
	right(func(c api.Config) {
		for k := range classes {
			size := slotBytes(c.Shift, k)
			for _, page := range []int{0, 1, c.Pages / 2, c.Pages - 1} {
				for s := range slots[k] {
					wantAt(t, c, k, page, int(s), (int64(page)+1)*pageBytes(c.Shift)+s*size)
				}
				for _, slot := range []int{-1, int(slots[k]), int(slots[k]) + 1, 64} {
					wantNoAt(t, c, k, page, slot)
				}
			}
			for _, slot := range []int{0, int(slots[k]) - 1} {
				wantNoAt(t, c, k, -1, slot)
				wantNoAt(t, c, k, c.Pages, slot)
			}
		}
	})
}

// P6.2: no page and no slot that is far off has an address, also where the reckoned one would wrap round.
func TestNoSlotFarOff(t *testing.T) {
	right(func(c api.Config) {
		for k := range classes {
			for _, far := range farInts {
				wantNoAt(t, c, k, far, 0)
				wantNoAt(t, c, k, far, 1)
				wantNoAt(t, c, k, 0, far)
				wantNoAt(t, c, k, c.Pages-1, far)
				wantNoAt(t, c, k, far, far)
			}
		}
	})
}

// P6.3: so many bytes need as many pages as they are multiples of a page, and one more for what is above one.
func TestPagesAtMultiples(t *testing.T) {
	right(func(c api.Config) {
		bytes := pageBytes(c.Shift)
		for _, n := range []int{1, 2, 3, c.Pages / 2, c.Pages - 1, c.Pages} {
			whole := int64(n) * bytes
			wantPages(t, c, whole, n)
			wantPages(t, c, whole-1, n)
			wantPages(t, c, whole-bytes+1, n)
			wantPages(t, c, whole-bytes/2, n)
			if n < c.Pages {
				wantPages(t, c, whole+1, n+1)
			}
		}
	})
}

// P6.3: a size is from 1 to all bytes; no other one needs pages, however great.
func TestPagesAtTheEnds(t *testing.T) {
	right(func(c api.Config) {
		all := int64(c.Pages) * pageBytes(c.Shift)
		wantPages(t, c, 1, 1)
		wantPages(t, c, all, c.Pages)
		for _, size := range append([]int64{0, all + 1, all + pageBytes(c.Shift), 2 * all}, farBytes...) {
			wantNoPages(t, c, size)
		}
	})
}

// P6.3: every size of a lesser heap.
func TestPagesOfEachSize(t *testing.T) {
	c := api.Config{Threads: 3, Pages: 9, Shift: 10}
	size := int64(0)
	for n := range c.Pages {
		for range pageBytes(c.Shift) {
			size++
			wantPages(t, c, size, n+1)
		}
	}
	wantNoPages(t, c, size+1)
}

// P6.4: the bytes of unlike slots of a class are unlike, and are all of their page.
func TestSlotsHaveNoByteInCommon(t *testing.T) {
	for shift := leastShift; shift <= mostShift; shift++ {
		c := api.Config{Threads: 1, Pages: 5, Shift: shift}
		for k := range classes {
			end := int64(0)
			for page := range c.Pages {
				for slot := range int(slots[k]) {
					a, ok := addr.At(c, k, page, slot)
					if !ok || a < end {
						t.Fatalf("At(%v, %d, %d, %d) = %d, %v, and the one ahead goes up to %d", c, k, page, slot, a, ok, end)
					}
					end = a + slotBytes(shift, k)
					wantSlotPage(t, c, end-1, page)
				}
			}
		}
	}
}

func wantSlotPage(t *testing.T, c api.Config, a int64, page int) {
	t.Helper()
	if p, _, ok := addr.Page(c, a); !ok || p != page {
		t.Fatalf("Page(%v, %d) = %d, %v, want %d", c, a, p, ok, page)
	}
}

// P6.4: what Page tells of a slot's address is what At was given, and Slot has the slot of it.
func TestSlotsComeBack(t *testing.T) {
	right(func(c api.Config) {
		for k := range classes {
			for _, page := range []int{0, 1, c.Pages - 1} {
				for slot := range int(slots[k]) {
					a, _ := addr.At(c, k, page, slot)
					p, off, ok := addr.Page(c, a)
					if !ok || p != page {
						t.Fatalf("Page(%v, %d) = %d, %d, %v", c, a, p, off, ok)
					}
					wantSlot(t, c, k, off, slot)
					wantOf(t, c, page, off, a)
				}
			}
		}
	})
}

// P6.1, P6.2: the chapter's example.
func TestExample(t *testing.T) {
	c := api.Config{Threads: 2, Pages: 8, Shift: 10}
	wantOf(t, c, 0, 5, 1029)
	wantPage(t, c, 1029, 0, 5)
	wantSlot(t, c, 1, 48, 1)
	wantAt(t, c, 1, 0, 1, 1024+48)
}
