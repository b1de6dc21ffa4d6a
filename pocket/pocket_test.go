package pocket_test

import (
	"math"
	"slices"
	"testing"

	"nacre/api"
	"nacre/pocket"
	"nacre/trial"
)

// The numbers of the document are written out: so the tests hold the limits, too.
const (
	classes = 9
	room    = 4
)

// eight has eight pages of 1024 bytes: their addresses are those from 1024 on, below 9216.
var eight = api.Config{Threads: 2, Pages: 8, Shift: 10}

// Configurations of each sort.
var (
	rights = trial.Rights(eight)
	none   = slices.Concat(trial.Wrongs(eight), trial.Pageless(eight), trial.Vast(eight))
)

// Numbers of no class, and of no page of the eight.
var (
	noClasses = append([]int{9, 10, 13, 255, 256 + 8}, trial.NoPages()...)
	noPages   = append([]int{8, 9, 255, 256, 1023, 1024}, trial.NoPages()...)
)

// noBytes are addresses of no byte of the eight pages, also those that would be one's of the page -1, or 8, or if some bits were lost.
var noBytes = []int64{
	0, 1, 1023, 9216, 9217, 10239, 10240, -1, -1023, -1024, -1025, -2048, 1<<32 + 1024, 1<<32 + 2048, 1 << 62, 1<<62 + 1024,
	math.MaxInt64 - 1023, math.MaxInt64, math.MinInt64, math.MinInt64 + 1024, math.MinInt64 + 2048,
}

// isSame tells whether each pocket of the one has the addresses of the other's.
func isSame(a, b api.Pockets) bool {
	return slices.EqualFunc(a[:], b[:], slices.Equal[[]int64])
}

// with is the Pockets, whose pocket k has these addresses instead.
func with(p api.Pockets, k int, l ...int64) api.Pockets {
	p[k] = l
	return p
}

// filled is Pockets of which each one has n addresses, all of them unlike.
func filled(n int) api.Pockets {
	var p api.Pockets
	for k := range p {
		for i := range n {
			p[k] = append(p[k], int64(1024+1000*k+16*i))
		}
	}
	return p
}

// wantPockets asks whether the Pockets are as they are to be.
func wantPockets(t *testing.T, what string, got, want api.Pockets) {
	t.Helper()
	if !isSame(got, want) {
		t.Fatalf("%s: the Pockets are %v, not %v", what, got, want)
	}
}

// wantLast asks whether Last, and Pop, tell what is last in the pocket k: l is all that is in it.
func wantLast(t *testing.T, p api.Pockets, k int, l ...int64) {
	t.Helper()
	want, rest := int64(0), p
	if len(l) > 0 {
		want, rest = l[len(l)-1], with(p, k, l[:len(l)-1]...)
	}
	if a, ok := pocket.Last(p, k); a != want || ok != (len(l) > 0) {
		t.Fatalf("Last(%v, %d) = %d, %t, not %d", p, k, a, ok, want)
	}
	a, q, ok := pocket.Pop(p, k)
	if a != want || ok != (len(l) > 0) {
		t.Fatalf("Pop(%v, %d) = %d, %t, not %d", p, k, a, ok, want)
	}
	wantPockets(t, "Pop", q, rest)
}

// wantPush asks whether a goes into the pocket k, and tells the Pockets that have it.
func wantPush(t *testing.T, p api.Pockets, k int, a int64) api.Pockets {
	t.Helper()
	want := with(p, k, slices.Concat(p[k], []int64{a})...)
	q, ok := pocket.Push(p, k, a)
	if !ok {
		t.Fatalf("Push(%v, %d, %d) tells false", p, k, a)
	}
	wantPockets(t, "Push", q, want)
	return q
}

// wantNoPush asks whether nothing goes into the pocket k.
func wantNoPush(t *testing.T, p api.Pockets, k int, a int64) {
	t.Helper()
	q, ok := pocket.Push(p, k, a)
	if ok {
		t.Fatalf("Push(%v, %d, %d) tells true", p, k, a)
	}
	wantPockets(t, "no Push", q, p)
}

// P17.1: the chapter's example.
func TestExample(t *testing.T) {
	var p api.Pockets
	for range 4 {
		p = wantPush(t, p, 3, 1024)
		if a, ok := pocket.Last(p, 3); a != 1024 || !ok {
			t.Fatalf("Last(%v, 3) = %d, %t", p, a, ok)
		}
	}
	wantNoPush(t, p, 3, 1024)
}

// P17.1: of each class: what is put there stands behind the others, as many as there is room for; what is last is taken out first; the other pockets stay as they are, be they empty, or full.
func TestOneByOne(t *testing.T) {
	for _, others := range []int{0, 1, 3, 4} {
		for k := range classes {
			p := with(filled(others), k)
			var l []int64
			wantLast(t, p, k)
			for _, a := range []int64{2048, 1024, 4096, 1040} {
				p = wantPush(t, p, k, a)
				l = append(l, a)
				wantLast(t, p, k, l...)
			}
			wantNoPush(t, p, k, 5120)
			for n := range room {
				a, q, ok := pocket.Pop(p, k)
				if a != l[room-1-n] || !ok {
					t.Fatalf("Pop(%v, %d) = %d, %t", p, k, a, ok)
				}
				wantPockets(t, "Pop", q, with(filled(others), k, l[:room-1-n]...))
				p = q
			}
			wantLast(t, p, k)
		}
	}
}

// P17.1: any address goes into a pocket, also one that stands there, and one that no byte has.
func TestAnyAddress(t *testing.T) {
	for _, a := range append([]int64{1024, 1025, 9215}, noBytes...) {
		for k := range classes {
			p := wantPush(t, with(filled(2), k), k, a)
			wantLast(t, p, k, a)
			p = wantPush(t, p, k, a)
			wantLast(t, p, k, a, a)
		}
	}
}

// P17.1: into a pocket that has more addresses than there is room for nothing goes; they are taken out like others.
func TestMoreThanRoom(t *testing.T) {
	for _, n := range []int{4, 5, 6, 8, 9, 100, 256, 257} {
		p := filled(n)
		for k := range classes {
			wantNoPush(t, p, k, 7)
			wantLast(t, p, k, p[k]...)
		}
	}
	p := filled(6)
	for n := range 3 {
		wantNoPush(t, p, 2, 7)
		_, p, _ = pocket.Pop(p, 2)
		wantPockets(t, "Pop", p, with(filled(6), 2, filled(6)[2][:5-n]...))
	}
	wantPush(t, p, 2, 7)
}

// P17.1, P17.2: of a class that there is not: 0, the Pockets as they are, nothing, false.
func TestNoClasses(t *testing.T) {
	for _, k := range noClasses {
		for _, n := range []int{0, 1, 4, 5} {
			p := filled(n)
			if a, ok := pocket.Last(p, k); a != 0 || ok {
				t.Fatalf("Last(%v, %d) = %d, %t", p, k, a, ok)
			}
			a, q, ok := pocket.Pop(p, k)
			if a != 0 || ok {
				t.Fatalf("Pop(%v, %d) = %d, %t", p, k, a, ok)
			}
			wantPockets(t, "Pop", q, p)
			wantNoPush(t, p, k, 1024)
			if l := pocket.On(eight, p, k, 0); len(l) != 0 {
				t.Fatalf("On(%v, %d, 0) = %v", p, k, l)
			}
			wantPockets(t, "Off", pocket.Off(eight, p, k, 0), p)
		}
	}
}

// wantPage asks whether just these addresses of the pocket k, and these others, are told to be of a page, and not.
func wantPage(t *testing.T, c api.Config, p api.Pockets, k, page int, on, off []int64) {
	t.Helper()
	if l := pocket.On(c, p, k, page); !slices.Equal(l, on) {
		t.Fatalf("On(%v, %v, %d, %d) = %v, not %v", c, p, k, page, l, on)
	}
	wantPockets(t, "Off", pocket.Off(c, p, k, page), with(p, k, off...))
}

// P17.2: the addresses of a page, and the others, in their order, of each class: as far as the page's bytes go, also those at which no slot begins, and those that stand there twice. In the other pockets there may be addresses of the page, too: they stay.
func TestOfAPage(t *testing.T) {
	for _, x := range []struct {
		page        int
		of, on, off []int64
	}{
		{0, []int64{1024, 2048, 1056, 2080}, []int64{1024, 1056}, []int64{2048, 2080}},
		{1, []int64{1024, 2048, 1056, 2080}, []int64{2048, 2080}, []int64{1024, 1056}},
		{2, []int64{1024, 2048, 1056, 2080}, nil, []int64{1024, 2048, 1056, 2080}},
		{0, []int64{1024}, []int64{1024}, nil},
		{0, []int64{2047}, []int64{2047}, nil},
		{0, []int64{1023, 1024, 2047, 2048}, []int64{1024, 2047}, []int64{1023, 2048}},
		{3, []int64{5119, 4095, 5120, 4096}, []int64{5119, 4096}, []int64{4095, 5120}},
		{7, []int64{9216, 9215, 8191, 8192}, []int64{9215, 8192}, []int64{9216, 8191}},
		{5, []int64{6999, 6200, 6300, 6144}, []int64{6999, 6200, 6300, 6144}, nil},
		{5, []int64{6200, 6200, 1024, 1024}, []int64{6200, 6200}, []int64{1024, 1024}},
		{0, []int64{0, 1, 1024, 1023, -1, 2000}, []int64{1024, 2000}, []int64{0, 1, 1023, -1}},
		{1, []int64{2100, 2090, 9, 2080, 2070, 8, 2060, 2050}, []int64{2100, 2090, 2080, 2070, 2060, 2050}, []int64{9, 8}},
		{4, nil, nil, nil},
	} {
		for k := range classes {
			wantPage(t, eight, with(filled(4), k, x.of...), k, x.page, x.on, x.off)
			wantPage(t, eight, with(api.Pockets{}, k, x.of...), k, x.page, x.on, x.off)
		}
	}
}

// P17.2: of a page that there is not, and of a configuration that is not right, no address is; and what is no byte's address is of no page.
func TestOfNoPage(t *testing.T) {
	for k := range classes {
		p := with(filled(4), k, append([]int64{1024, 2048, 9215}, noBytes...)...)
		for _, page := range noPages {
			wantPage(t, eight, p, k, page, nil, p[k])
		}
		for page := range eight.Pages {
			wantPage(t, eight, with(p, k, noBytes...), k, page, nil, noBytes)
		}
		for _, c := range none {
			for _, page := range append([]int{0, 1, 2, 7}, noPages...) {
				wantPage(t, c, p, k, page, nil, p[k])
			}
		}
	}
}

// P17.2: of configurations of each sort: each address is of just the page in which it stands.
func TestOfPagesByChance(t *testing.T) {
	for seed := range 600 {
		by := trial.Chance(seed)
		c := rights[by.Next(len(rights))]
		bytes := int64(1) << c.Shift
		page, k := by.Next(c.Pages), by.Next(classes)
		var l, on, off []int64
		for range by.Next(9) {
			near := by.Pick(page, page, page+1, page-1, by.Next(c.Pages))
			a := int64(near+1)*bytes + int64(by.Pick(0, 1<<c.Shift-1, by.Next(1<<10)))
			l = append(l, a)
			if near == page {
				on = append(on, a)
			} else {
				off = append(off, a)
			}
		}
		wantPage(t, c, with(filled(3), k, l...), k, page, on, off)
	}
}

// P17.1, P17.2: what was handed in stays as it is, also where lists have room behind what they hold: so of one Pockets several others may be made.
func TestNothingIsChanged(t *testing.T) {
	for k := range classes {
		ground := []int64{1024, 2048, 1040, 7, 7, 7, 7, 7}
		was := slices.Clone(ground)
		p := with(filled(3), k, ground[:3]...)
		at := trial.CopyPockets(p)
		one := wantPush(t, p, k, 1)
		two := wantPush(t, p, k, 2)
		_, less, _ := pocket.Pop(p, k)
		three := wantPush(t, less, k, 3)
		off := pocket.Off(eight, p, k, 1)
		four := wantPush(t, off, k, 4)
		on := pocket.On(eight, p, k, 0)
		_, empty, _ := pocket.Pop(with(p, k, ground[:1]...), k)
		five := wantPush(t, empty, k, 5)
		if !slices.Equal(ground, was) {
			t.Fatalf("the list is %v, not %v", ground, was)
		}
		if !slices.Equal(on, []int64{1024, 1040}) {
			t.Fatalf("On told %v", on)
		}
		wantPockets(t, "handed in", p, at)
		wantPockets(t, "the first Push", one, with(at, k, 1024, 2048, 1040, 1))
		wantPockets(t, "the second Push", two, with(at, k, 1024, 2048, 1040, 2))
		wantPockets(t, "Pop", less, with(at, k, 1024, 2048))
		wantPockets(t, "Push behind Pop", three, with(at, k, 1024, 2048, 3))
		wantPockets(t, "Off", off, with(at, k, 1024, 1040))
		wantPockets(t, "Push behind Off", four, with(at, k, 1024, 1040, 4))
		wantPockets(t, "Push behind the last Pop", five, with(at, k, 5))
	}
}

// wantSame asks whether Same tells that two Pockets are the same, or not, whichever is named first.
func wantSame(t *testing.T, a, b api.Pockets, want bool) {
	t.Helper()
	if pocket.Same(a, b) != want || pocket.Same(b, a) != want {
		t.Fatalf("Same(%v, %v) is not %t", a, b, want)
	}
}

// P17.3: the same are Pockets just if each pocket has the same addresses in the same order; nil and an empty list are the same.
func TestSame(t *testing.T) {
	wantSame(t, api.Pockets{}, api.Pockets{}, true)
	for _, n := range []int{0, 1, 2, 4, 5} {
		p := filled(n)
		wantSame(t, p, p, true)
		wantSame(t, p, trial.CopyPockets(p), true)
		for k := range classes {
			wantSame(t, p, with(p, k, append(slices.Clone(p[k]), 9)...), false)
			wantSame(t, p, with(p, k, append([]int64{9}, p[k]...)...), false)
			wantSame(t, with(p, k), with(p, k, []int64{}...), true)
			wantSame(t, with(p, k), with(p, k, make([]int64, 0, 8)...), true)
			wantSame(t, with(p, k), with(p, k, 0), false)
			wantSame(t, with(p, k), p, n == 0)
			for i := range n {
				other := slices.Clone(p[k])
				other[i]++
				wantSame(t, p, with(p, k, other...), false)
				other[i] -= 1 << 32
				wantSame(t, p, with(p, k, other...), false)
			}
			if n > 1 {
				turned := slices.Clone(p[k])
				slices.Reverse(turned)
				wantSame(t, p, with(p, k, turned...), false)
			}
			if to := (k + 1) % classes; n > 0 {
				wantSame(t, with(with(p, k), to, p[k]...), with(with(p, k, p[k]...), to), false)
			}
		}
	}
}

// P17.1, P17.4: long rows by chance: what is put into a pocket that has room is its Last; taken out, the Pockets are what they were; and all Pockets that were told stay as they were told.
func TestLongRows(t *testing.T) {
	for seed := range 60 {
		by := trial.Chance(seed)
		var p api.Pockets
		var told, as []api.Pockets
		for range 120 {
			k, a := by.Next(classes), int64(by.Bits())
			if len(p[k]) == room {
				wantNoPush(t, p, k, a)
			} else {
				more := wantPush(t, p, k, a)
				wantLast(t, more, k, append(slices.Clone(p[k]), a)...)
				if _, back, _ := pocket.Pop(more, k); !pocket.Same(back, p) {
					t.Fatalf("Pop behind Push(%v, %d, %d) leaves %v", p, k, a, back)
				}
				if by.Next(3) > 0 {
					p = more
				}
			}
			if by.Next(4) == 0 {
				_, p, _ = pocket.Pop(p, k)
			}
			told, as = append(told, p), append(as, trial.CopyPockets(p))
		}
		for i := range told {
			wantPockets(t, "told earlier", told[i], as[i])
		}
	}
}
