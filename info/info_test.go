package info_test

import (
	"math"
	"testing"

	"nacre/api"
	"nacre/info"
)

// known are infos, and their values as numbers written out.
var known = []struct {
	i api.Info
	v uint32
}{
	{api.Info{}, 0},
	{api.Info{Kind: api.InFree, Len: 1}, 0x11},
	{api.Info{Kind: api.InFree, Len: 2}, 0x21},
	{api.Info{Kind: api.InFree, Len: 4}, 0x41},
	{api.Info{Kind: api.InFree, Len: 15}, 0xf1},
	{api.Info{Kind: api.InFree, Len: 16}, 0x101},
	{api.Info{Kind: api.InFree, Len: 1023}, 0x3ff1},
	{api.Info{Kind: api.InFree, Len: 1024}, 0x4001},
	{api.Info{Kind: api.InUsed, Len: 1}, 0x12},
	{api.Info{Kind: api.InUsed, Len: 3}, 0x32},
	{api.Info{Kind: api.InUsed, Len: 1023}, 0x3ff2},
	{api.Info{Kind: api.InUsed, Len: 1024}, 0x4002},
	{api.Info{Kind: api.InSlab, Len: 1, Class: 0}, 0x13},
	{api.Info{Kind: api.InSlab, Len: 1, Class: 1}, 0x10013},
	{api.Info{Kind: api.InSlab, Len: 1, Class: 2}, 0x20013},
	{api.Info{Kind: api.InSlab, Len: 1, Class: 8}, 0x80013},
}

// beyond are ints that no Kind, Len and Class may be, also those of which the low bits could be one.
var beyond = []int{
	-1, -2, -3, -4, -8, -16, -1024, -4096, -1 << 16, -1 << 32, math.MinInt32, math.MinInt, math.MinInt + 1, math.MinInt + 3,
	1025, 2048, 4095, 4096, 4097, 4098, 4099, 1 << 16, 1<<16 + 1, 1<<16 + 3, 1 << 20, 1 << 31, 1<<31 + 1,
	1<<32 - 1, 1 << 32, 1<<32 + 1, 1<<32 + 2, 1<<32 + 3, 1 << 48, 1 << 60, 1<<60 + 1, math.MaxInt32, math.MaxInt - 1, math.MaxInt,
}

// valueOf is the value of an info, added up as the chapter tells its bits.
func valueOf(i api.Info) uint32 {
	return uint32(i.Kind + 16*i.Len + 65536*i.Class)
}

// rights are all infos that are right, one by one, each at its value.
func rights() map[uint32]api.Info {
	all := map[uint32]api.Info{0: {}}
	add := func(i api.Info) { all[valueOf(i)] = i }
	for pages := 1; pages <= 1024; pages++ {
		add(api.Info{Kind: 1, Len: pages})
		add(api.Info{Kind: 2, Len: pages})
	}
	for class := range 9 {
		add(api.Info{Kind: 3, Len: 1, Class: class})
	}
	return all
}

// wantBoth asks whether the value of i is v, and the info of v is i.
func wantBoth(t *testing.T, i api.Info, v uint32) {
	t.Helper()
	if got, ok := info.Put(i); !ok || got != v {
		t.Fatalf("Put(%v) = %x, %v, not %x, true", i, got, ok, v)
	}
	if got, ok := info.Get(v); !ok || got != i {
		t.Fatalf("Get(%x) = %v, %v, not %v, true", v, got, ok, i)
	}
}

// wantNoValue asks whether i has no value.
func wantNoValue(t *testing.T, i api.Info) {
	t.Helper()
	if got, ok := info.Put(i); ok || got != 0 {
		t.Fatalf("Put(%v) = %x, %v, not 0, false", i, got, ok)
	}
}

// wantNoInfo asks whether v is the value of no info.
func wantNoInfo(t *testing.T, v uint32) {
	t.Helper()
	if got, ok := info.Get(v); ok || got != (api.Info{}) {
		t.Fatalf("Get(%x) = %v, %v, not zeros, false", v, got, ok)
	}
}

// P9.1, P9.2: the chapter's examples, and the info of each kind with its least and its greatest Len and Class, both ways.
func TestKnownInfos(t *testing.T) {
	for _, x := range known {
		wantBoth(t, x.i, x.v)
	}
}

// P9.1, P9.2: each info that is right has its own value, and the value its info.
func TestAllRightInfos(t *testing.T) {
	all := rights()
	if len(all) != 1+2*1024+9 {
		t.Fatalf("%d values", len(all))
	}
	for v, i := range all {
		wantBoth(t, i, v)
	}
}

// P9.1, P9.2: of the bits that are told, each value is that of a right info, or of none; what is got is put back to the same.
func TestAllValuesOfTheToldBits(t *testing.T) {
	all := rights()
	for v := range uint32(1 << 20) {
		i, right := all[v]
		got, ok := info.Get(v)
		if ok != right || got != i {
			t.Fatalf("Get(%x) = %v, %v, not %v, %v", v, got, ok, i, right)
		}
		if !ok {
			continue
		}
		if back, ok := info.Put(got); !ok || back != v {
			t.Fatalf("Put(%v) = %x, %v, not %x, true", got, back, ok, v)
		}
	}
}

// P9.1: a value with a bit set above those that are told is none, whatever stands below, and with every other one beside it.
func TestBitsAboveThoseThatAreTold(t *testing.T) {
	for v := range rights() {
		for bit := 20; bit < 32; bit++ {
			wantNoInfo(t, v|1<<bit)
			wantNoInfo(t, v|math.MaxUint32<<bit)
		}
		for above := uint32(1); above < 1<<12; above++ {
			if _, ok := info.Get(v | above<<20); ok {
				t.Fatalf("Get(%x) is told", v|above<<20)
			}
		}
	}
}

// P9.1: values of kinds that are none, of a Len or a Class that may not be.
func TestValuesThatAreNone(t *testing.T) {
	for _, v := range []uint32{
		0x4, 0x5, 0x14, 0x18, 0x1f, 0x44, 0x4004, 0x10014, 0x20014, 0xf, // kinds that are none
		0x1, 0x2, 0x3, 0x10003, 0x80003, // a Len of 0
		0x4011, 0x4012, 0x7ff1, 0x8001, 0x8002, 0xfff1, 0xfff2, // a Len of more than 1,024
		0x23, 0x20023, 0x4003, 0x4013, 0xfff3, // a slab of more than one page
		0x10011, 0x10012, 0x84001, 0x84002, 0xf0011, 0xf4002, // a Class where there may be none
		0x90013, 0xa0013, 0xc0013, 0xf0013, // a Class of 9 and more
		0x10, 0x40, 0x4000, 0xfff0, 0x10000, 0x80000, 0x10010, 0xf0000, // all else where the kind is none
		0x100000, 0x100001, 0x100011, 0x120013, 0x200041, 0x80000000, 0x80000041, 0xfff00013, math.MaxUint32, // other bits
	} {
		wantNoInfo(t, v)
	}
}

// P9.1: an info of a kind that is none is not right: the next one behind the last, those that a field would hold, negative and very great ones.
func TestKindsThatAreNone(t *testing.T) {
	kinds := append([]int{4, 5, 6, 7, 8, 9, 14, 15, 16, 17, 18, 19, 32, 33, 256, 1024}, beyond...)
	for _, kind := range kinds {
		for _, pages := range []int{-1, 0, 1, 2, 4, 1024, 1025} {
			for _, class := range []int{-1, 0, 1, 8, 9} {
				wantNoValue(t, api.Info{Kind: kind, Len: pages, Class: class})
			}
		}
	}
}

// P9.1: a Len of 0, of more than 1,024, a negative one, and one that only fits if bits are left away.
func TestLensThatMayNotBe(t *testing.T) {
	for _, pages := range append([]int{0}, beyond...) {
		for _, class := range []int{0, 1, 8} {
			for _, kind := range []int{api.InFree, api.InUsed, api.InSlab} {
				wantNoValue(t, api.Info{Kind: kind, Len: pages, Class: class})
			}
		}
	}
}

// P9.1: a slab has one page, whatever its class.
func TestSlabsOfMorePages(t *testing.T) {
	for class := range api.Classes {
		for pages := -1; pages <= 4097; pages++ {
			i := api.Info{Kind: api.InSlab, Len: pages, Class: class}
			if pages == 1 {
				wantBoth(t, i, valueOf(i))
			} else {
				wantNoValue(t, i)
			}
		}
	}
}

// P9.1: a free span and a used one have no Class, whatever their Len.
func TestSpansWithAClass(t *testing.T) {
	classes := append([]int{1, 2, 3, 8, 9, 10, 15, 16, 17}, beyond...)
	for _, class := range classes {
		for _, pages := range []int{1, 2, 4, 1023, 1024} {
			wantNoValue(t, api.Info{Kind: api.InFree, Len: pages, Class: class})
			wantNoValue(t, api.Info{Kind: api.InUsed, Len: pages, Class: class})
		}
	}
}

// P9.1: a slab's Class is one that there is: not a negative one, not one of 9 and more.
func TestSlabsOfNoClass(t *testing.T) {
	for class := 9; class <= 1024; class++ {
		wantNoValue(t, api.Info{Kind: api.InSlab, Len: 1, Class: class})
		wantNoValue(t, api.Info{Kind: api.InSlab, Len: 1, Class: -class})
	}
	for _, class := range beyond {
		wantNoValue(t, api.Info{Kind: api.InSlab, Len: 1, Class: class})
	}
}

// P9.1: where the kind is none, there is neither a Len nor a Class.
func TestNothingBeginsWithMore(t *testing.T) {
	wantBoth(t, api.Info{Kind: api.InNone}, 0)
	more := append([]int{1, 2, 3, 4, 8, 9, 15, 16, 17, 1023, 1024}, beyond...)
	for _, n := range more {
		wantNoValue(t, api.Info{Len: n})
		wantNoValue(t, api.Info{Class: n})
		wantNoValue(t, api.Info{Len: n, Class: n})
		wantNoValue(t, api.Info{Len: n, Class: -n})
		wantNoValue(t, api.Info{Len: -n, Class: n})
	}
}

// P9.1, P9.2: of each kind, Len and Class near their ends just those that are right have a value.
func TestNumbersNearTheirEnds(t *testing.T) {
	all := rights()
	lens := []int{-2, -1, 0, 1, 2, 3, 9, 1022, 1023, 1024, 1025, 1026, 4095, 4096, 4097}
	for kind := -17; kind <= 33; kind++ {
		for _, pages := range lens {
			for class := -17; class <= 33; class++ {
				i := api.Info{Kind: kind, Len: pages, Class: class}
				v, ok := info.Put(i)
				if is, right := all[valueOf(i)]; right && is == i {
					wantBoth(t, i, valueOf(i))
				} else if ok || v != 0 {
					t.Fatalf("Put(%v) = %x, %v, not 0, false", i, v, ok)
				}
			}
		}
	}
}
