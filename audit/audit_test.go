package audit_test

import (
	"math"
	"slices"
	"testing"

	"nacre/api"
	"nacre/audit"
	"nacre/place"
	"nacre/trial"
)

// mixed is the configuration of a heap of all that there may be.
var mixed = api.Config{Threads: 2, Pages: 40, Shift: 10}

// mixedPieces are the pieces of it: lists of three, of one and of no pages, full slabs and ones that are not.
var mixedPieces = []trial.Piece{
	trial.Used(1),                      // 0
	trial.Slab(0, 11, 1),               // 1
	trial.Free(1),                      // 2
	trial.Used(3),                      // 3
	trial.Slab(8, 3, 2),                // 6, full
	trial.Free(3),                      // 7
	trial.Slab(0, math.MaxUint32, 255), // 10, full
	trial.Slab(1, 1, 1),                // 11
	trial.Slab(0, 1<<31, 0),            // 12
	trial.Used(1),                      // 13
	trial.Free(2),                      // 14
	trial.Slab(3, 1023, 0),             // 16, full
	trial.Free(1),                      // 17
	trial.Slab(0, 1<<31|2, 1<<31|2),    // 18
	trial.Used(2),                      // 19
	trial.Free(1),                      // 21
	trial.Used(1),                      // 22
	trial.Free(3),                      // 23
	trial.Slab(5, 30, 4),               // 26
	trial.Free(13),                     // 27
}

// layMixed lays the heap of all that there may be; two roots name one block.
func layMixed() trial.Heap {
	l := trial.Lay(mixed, mixedPieces...)
	l.Vals[place.Root(0)] = 1024
	l.Vals[place.Root(3)] = 11 * 1024
	l.Vals[place.Root(4)] = 1024
	l.Vals[place.Root(7)] = 19*1024 + 31*32
	for t := range mixed.Threads {
		for f := range 4 {
			l.Vals[place.Done(mixed, t, f)] = uint32(7*t + f + 1)
		}
	}
	return l
}

// wantHeap asks whether the values are a heap, by the program, and by what the document says.
func wantHeap(t *testing.T, l trial.Heap) {
	t.Helper()
	if n, ok := audit.Check(l.Config, l.Vals); n != 0 || !ok {
		t.Fatalf("Check() = %d, %v of a heap of %v", n, ok, l.Config)
	}
	if rules := broken(l); len(rules) != 0 {
		t.Fatalf("the test laid a heap of %v of which the rules %v do not hold", l.Config, rules)
	}
}

// wantNone asks whether the first rule that does not hold of the values is n, and nothing else is told of them.
func wantNone(t *testing.T, what string, l trial.Heap, n int) {
	t.Helper()
	if got, ok := audit.Check(l.Config, l.Vals); got != n || ok {
		t.Fatalf("%s: Check() = %d, %v, want %d", what, got, ok, n)
	}
	if live := audit.Live(l.Config, l.Vals); len(live) != 0 {
		t.Fatalf("%s: Live() = %v", what, live)
	}
	if parts := audit.Parts(l.Config, l.Vals); len(parts) != 0 {
		t.Fatalf("%s: Parts() = %v", what, parts)
	}
	if s, ok := audit.State(l.Config, l.Vals); ok || len(s.Live) != 0 || s.Roots != [roots]int64{} {
		t.Fatalf("%s: State() = %v, %v", what, s, ok)
	}
}

// wantJust asks whether just the rule n does not hold of the values.
func wantJust(t *testing.T, what string, l trial.Heap, n int) {
	t.Helper()
	if rules := broken(l); !slices.Equal(rules, []int{n}) {
		t.Fatalf("%s: the rules %v do not hold, the test means %d alone", what, rules, n)
	}
	wantNone(t, what, l, n)
}

// spoil is a way in which a heap is spoilt.
type spoil struct {
	what string
	do   func(l trial.Heap)
}

// set is the way in which one cell gets a value.
func set(what string, cell int, val uint32) spoil {
	return spoil{what, func(l trial.Heap) { l.Vals[cell] = val }}
}

// wantSpoilt asks of each way by itself whether just the rule n does not hold of the heap then.
func wantSpoilt(t *testing.T, l trial.Heap, n int, ways ...spoil) {
	t.Helper()
	wantHeap(t, l)
	for _, way := range ways {
		spoilt := l.Copied()
		way.do(spoilt)
		if slices.Equal(spoilt.Vals, l.Vals) {
			t.Fatalf("%s: the test changed nothing", way.what)
		}
		wantJust(t, way.what, spoilt, n)
	}
}

// P12.1: the chapter's example: a heap of which all pages are free.
func TestExample(t *testing.T) {
	for threads := 1; threads <= 16; threads++ {
		c := api.Config{Threads: threads, Pages: 4, Shift: 10}
		v := make([]uint32, 30+4*threads+6*4)
		page := 30 + 4*threads
		v[0], v[2+2], v[page], v[page+6*3+1] = 4, 1, 0x41, 1
		wantHeap(t, trial.Heap{Config: c, Vals: v})
		if parts := audit.Parts(c, v); !slices.Equal(parts, []api.Part{{Kind: api.PtFree, Addr: 1024, Size: 4096}}) {
			t.Fatalf("Parts() = %v", parts)
		}
		if s, ok := audit.State(c, v); !ok || len(s.Live) != 0 || s.Roots != [roots]int64{} {
			t.Fatalf("State() = %v, %v", s, ok)
		}
	}
}

// configs are right ones, of the least and the greatest threads and shift.
func configs(pages int) []api.Config {
	return []api.Config{
		{Threads: 1, Pages: pages, Shift: 10}, {Threads: 16, Pages: pages, Shift: 20}, {Threads: 3, Pages: pages, Shift: 13},
	}
}

// wantTold asks whether the pieces, laid, are a heap, and whether what is told of it is what they hold.
func wantTold(t *testing.T, c api.Config, pieces ...trial.Piece) {
	t.Helper()
	l := trial.Lay(c, pieces...)
	live, parts := liveOf(c, pieces...), partsOf(c, pieces...)
	want := api.State{Live: live}
	for i := range min(roots, len(live)) {
		a := live[i*7%len(live)].Addr
		l.Vals[place.Root(i)], want.Roots[i] = uint32(a), a
	}
	before := slices.Clone(l.Vals)
	wantHeap(t, l)
	if got := audit.Live(c, l.Vals); !slices.Equal(got, live) {
		t.Fatalf("of %v: Live() = %v, want %v", pieces, got, live)
	}
	if got := audit.Parts(c, l.Vals); !slices.Equal(got, parts) {
		t.Fatalf("of %v: Parts() = %v, want %v", pieces, got, parts)
	}
	got, ok := audit.State(c, l.Vals)
	if !ok || !slices.Equal(got.Live, want.Live) || got.Roots != want.Roots || !audit.Same(got, want) {
		t.Fatalf("of %v: State() = %v, %v, want %v", pieces, got, ok, want)
	}
	if !slices.Equal(before, l.Vals) {
		t.Fatalf("the values of %v changed", pieces)
	}
}

// P12.1 to P12.3: heaps of which all pages are free, and of which all are one block: there are as many bins as lengths need.
func TestAllFreeOrOneBlock(t *testing.T) {
	for _, pages := range []int{4, 5, 7, 8, 9, 15, 16, 31, 32, 63, 64, 127, 128, 255, 256, 511, 512, 1023, 1024} {
		for _, c := range configs(pages) {
			wantTold(t, c, trial.Free(pages))
			wantTold(t, c, trial.Used(pages))
			wantTold(t, c, trial.Free(1), trial.Used(pages-1))
			wantTold(t, c, trial.Used(1), trial.Free(pages-1))
			wantTold(t, c, trial.Used(pages-2), trial.Used(2))
			wantTold(t, c, trial.Free(1), trial.Used(pages-2), trial.Free(1))
		}
	}
}

// P12.1 to P12.3: slabs of each class and shift, with one slot that is taken, live or not, and with all, full or not; also 1024 of them, in one Rack or in none.
func TestSlabs(t *testing.T) {
	for k := range classes {
		for shift := 10; shift <= 20; shift++ {
			c := api.Config{Threads: 2, Pages: 4, Shift: shift}
			all := full(k)
			top := uint32(1) << (slotsOf[k] - 1)
			wantTold(t, c, trial.Slab(k, 1, 0), trial.Slab(k, 1, 1), trial.Slab(k, top, 0), trial.Slab(k, top, top))
			wantTold(t, c, trial.Slab(k, all, 0), trial.Slab(k, all, all), trial.Slab(k, all, 1), trial.Slab(k, all, top))
			wantTold(t, c, trial.Slab(k, all&^1, all&^1), trial.Free(1), trial.Slab(k, all&^top, 2&^top), trial.Used(1))
			wantTold(t, c, trial.Slab(k, all, all&^1), trial.Used(2), trial.Slab(k, all, all&^top))
		}
		for _, c := range configs(1024) {
			wantTold(t, c, slices.Repeat([]trial.Piece{trial.Slab(k, full(k), full(k))}, 1024)...)
			wantTold(t, c, slices.Repeat([]trial.Piece{trial.Slab(k, 1, 0)}, 1024)...)
		}
	}
}

// P12.1 to P12.4: heaps of all that there may be, one by hand and many by chance, small and great.
func TestMixedHeaps(t *testing.T) {
	wantHeap(t, layMixed())
	wantTold(t, mixed, mixedPieces...)
	x := trial.Chance(1)
	for _, pages := range []int{4, 5, 6, 7, 8, 9, 16, 33, 64, 100, 1024} {
		for _, c := range configs(pages) {
			for range 8 {
				wantTold(t, c, x.Pieces(pages)...)
			}
		}
	}
}

// P12.1: which way round a list is, and what the cells of the threads are, does not matter.
func TestWhatDoesNotMatter(t *testing.T) {
	x := trial.Chance(2)
	l := layMixed()
	for range 50 {
		for head := 2; head < 22; head++ {
			pages := l.List(head)
			for i := range pages {
				k := x.Next(i + 1)
				pages[i], pages[k] = pages[k], pages[i]
			}
			l.Relink(head, pages...)
		}
		for thread := range mixed.Threads {
			for f := range 4 {
				l.Vals[place.Done(mixed, thread, f)] = x.Bits()
			}
		}
		wantHeap(t, l)
	}
}

// P12.4: Parts are, one behind the other, just all bytes of all pages, and those that are live are the live blocks.
func TestPartsAreAllBytes(t *testing.T) {
	x := trial.Chance(3)
	for _, pages := range []int{4, 9, 40, 1024} {
		for _, c := range configs(pages) {
			l := trial.Lay(c, x.Pieces(pages)...)
			end := int64(1) << c.Shift
			var live []api.Block
			for _, part := range audit.Parts(c, l.Vals) {
				if part.Addr != end || part.Size <= 0 || part.Kind < api.PtFree || part.Kind > api.PtSlack {
					t.Fatalf("the part %v of a heap of %v is to begin at %d", part, c, end)
				}
				end += part.Size
				if part.Kind == api.PtLive {
					live = append(live, api.Block{Addr: part.Addr, Size: part.Size})
				}
			}
			if end != int64(pages+1)<<c.Shift {
				t.Fatalf("the parts of a heap of %v end at %d", c, end)
			}
			if got := audit.Live(c, l.Vals); !slices.Equal(got, live) {
				t.Fatalf("Live() = %v, the parts are %v", got, live)
			}
		}
	}
}

// P12.1: the rule 1: a configuration that is not right has no heap, also if no value is given, or those of a right one.
func TestRule1NotRight(t *testing.T) {
	vals := layMixed().Vals
	for _, c := range []api.Config{
		{}, {Threads: 0, Pages: 40, Shift: 10}, {Threads: 17, Pages: 40, Shift: 10}, {Threads: -1, Pages: 40, Shift: 10},
		{Threads: 2, Pages: 3, Shift: 10}, {Threads: 2, Pages: 1025, Shift: 10}, {Threads: 2, Pages: -40, Shift: 10}, {Threads: 2, Pages: 0, Shift: 10},
		{Threads: 2, Pages: 40, Shift: 9}, {Threads: 2, Pages: 40, Shift: 21}, {Threads: 2, Pages: 40, Shift: -10}, {Threads: 2, Pages: 40, Shift: 64},
		{Threads: math.MaxInt, Pages: math.MaxInt, Shift: math.MaxInt}, {Threads: math.MinInt, Pages: math.MinInt, Shift: math.MinInt},
		{Threads: 2 + 1<<32, Pages: 40, Shift: 10}, {Threads: 2, Pages: 40 + 1<<32, Shift: 10}, {Threads: 2, Pages: 40, Shift: 10 + 1<<32},
	} {
		wantNone(t, "a configuration that is not right", trial.Heap{Config: c, Vals: vals}, 1)
		wantNone(t, "the same without values", trial.Heap{Config: c, Vals: nil}, 1)
		wantNone(t, "the same without pages", trial.Heap{Config: c, Vals: make([]uint32, 30+8)}, 1)
	}
}

// P12.1: the rule 1: too few and too many values are no heap, also where there is room for more behind them.
func TestRule1HowManyValues(t *testing.T) {
	l := layMixed()
	wantHeap(t, l)
	for n := range l.Vals {
		wantNone(t, "too few values", trial.Heap{Config: l.Config, Vals: l.Vals[:n]}, 1)
		wantNone(t, "too few values without room behind them", trial.Heap{Config: l.Config, Vals: slices.Clone(l.Vals[:n])}, 1)
	}
	wantNone(t, "no values", trial.Heap{Config: l.Config, Vals: nil}, 1)
	for _, more := range []int{1, 4, 5, 6, 1000} {
		wantNone(t, "too many values", trial.Heap{Config: l.Config, Vals: append(slices.Clone(l.Vals), make([]uint32, more)...)}, 1)
	}
	for _, c := range []api.Config{{Threads: 1, Pages: 40, Shift: 10}, {Threads: 2, Pages: 39, Shift: 10}, {Threads: 2, Pages: 41, Shift: 10}} {
		wantNone(t, "another one's values", trial.Heap{Config: c, Vals: l.Vals}, 1)
	}
}

// P12.1: the rule 2: where a span is to begin there is no info, one of no pages, one that goes beyond the end, or InNone; the pages from there on are without all else.
func TestRule2NoSpan(t *testing.T) {
	c := api.Config{Threads: 2, Pages: 8, Shift: 10}
	for _, ahead := range [][]trial.Piece{nil, {trial.Free(3)}, {trial.Used(2), trial.Slab(4, 1, 1)}, {trial.Slab(0, 1, 0), trial.Used(6)}, {trial.Used(4), trial.Free(1), trial.Used(1)}} {
		l := trial.Lay(c, ahead...)
		p := 0
		for _, x := range ahead {
			p += x.Len
		}
		left := uint32(8 - p)
		for what, val := range map[string]uint32{
			"InNone": 0, "InNone with a Len": 0x10, "a free span of no pages": 1, "a used span of no pages": 2,
			"a slab of no pages": 3, "a slab of two pages": 0x23, "a kind that is none": 0x14, "the greatest kind": 0x1f,
			"a class that is none": 0x90013, "the greatest class": 0xf0013, "a free span with a class": 0x10011, "a used span with a class": 0x10012,
			"a bit above the class": 0x100011, "the highest bit": 0x80000012, "all bits": math.MaxUint32,
			"a free span beyond the end": (left+1)<<4 | 1, "a used span beyond the end": (left+1)<<4 | 2,
			"a used span of too many pages": 1025<<4 | 2, "a free span far beyond the end": 1024<<4 | 1, "the greatest Len": 4095<<4 | 2,
		} {
			spoilt := l.Copied()
			spoilt.Vals[place.Info(c, p)] = val
			wantJust(t, what, spoilt, 2)
		}
	}
}

// P12.1: the rule 2: an Info stands behind the first page of a free or of a used span.
func TestRule2BehindAFirstPage(t *testing.T) {
	var ways []spoil
	for _, p := range []int{4, 5, 8, 9, 15, 20, 24, 25, 28, 39} {
		for _, val := range []uint32{0x11, 0x12, 0x13, 0x21, 1, 4, 0x10, 1 << 31, math.MaxUint32} {
			ways = append(ways, set("an Info behind the first page", place.Info(mixed, p), val))
		}
	}
	wantSpoilt(t, layMixed(), 2, ways...)
}

// P12.1: the rule 3: a Foot is missing, is another page's, or stands where none may.
func TestRule3(t *testing.T) {
	var ways []spoil
	at := 0
	for _, x := range mixedPieces {
		for p := at; p < at+x.Len; p++ {
			for _, val := range []uint32{0, 1, uint32(at), uint32(at) + 1, uint32(at) + 2, uint32(at + x.Len), 41, math.MaxUint32, uint32(at) + 1 + 1<<16} {
				is := uint32(0)
				if p == at+x.Len-1 {
					is = uint32(at) + 1
				}
				if val != is {
					ways = append(ways, set("a Foot", place.Foot(mixed, p), val))
				}
			}
		}
		at += x.Len
	}
	wantSpoilt(t, layMixed(), 3, ways...)
}

// P12.1: the rule 4: two free spans are side by side, in one bin or in two, at both ends and within.
func TestRule4(t *testing.T) {
	c := api.Config{Threads: 1, Pages: 8, Shift: 12}
	for _, pieces := range [][]trial.Piece{
		{trial.Free(1), trial.Free(7)}, {trial.Free(4), trial.Free(4)}, {trial.Free(7), trial.Free(1)}, {trial.Free(1), trial.Free(1), trial.Used(6)}, {trial.Used(6), trial.Free(1), trial.Free(1)},
		{trial.Used(3), trial.Free(2), trial.Free(3)}, {trial.Slab(0, 1, 1), trial.Free(1), trial.Free(2), trial.Slab(0, 1, 1), trial.Used(3)}, {trial.Free(2), trial.Free(2), trial.Free(2), trial.Free(2)},
		{trial.Free(1), trial.Used(1), trial.Free(1), trial.Used(1), trial.Free(1), trial.Used(1), trial.Free(1), trial.Free(1)},
	} {
		wantJust(t, "free spans side by side", trial.Lay(c, pieces...), 4)
	}
	wantHeap(t, trial.Lay(c, trial.Free(1), trial.Used(1), trial.Free(1), trial.Slab(8, 3, 3), trial.Free(1), trial.Used(2), trial.Free(1)))
	wantHeap(t, trial.Lay(c, trial.Used(1), trial.Used(1), trial.Slab(0, 1, 1), trial.Slab(0, 1, 1), trial.Used(1), trial.Slab(8, 1, 1), trial.Used(2)))
}

// P12.1: the rule 5: of a slab no slot is taken, one that there is not, or one is live that is not taken.
func TestRule5Slabs(t *testing.T) {
	for k := range classes {
		c := api.Config{Threads: 1, Pages: 4, Shift: 10}
		all := full(k)
		wantJust(t, "nothing taken", trial.Lay(c, trial.Slab(k, 0, 0), trial.Used(3)), 5)
		wantJust(t, "nothing taken, of the last page", trial.Lay(c, trial.Used(1), trial.Free(2), trial.Slab(k, 0, 0)), 5)
		wantJust(t, "nothing taken, but one live", trial.Lay(c, trial.Slab(k, 0, 1), trial.Used(3)), 5)
		for s := slotsOf[k]; s < 32; s++ {
			bit := uint32(1) << s
			wantJust(t, "a bit beyond the slots", trial.Lay(c, trial.Slab(k, 1|bit, 1), trial.Used(3)), 5)
			wantJust(t, "a bit beyond the slots of a full one", trial.Lay(c, trial.Used(1), trial.Slab(k, all|bit, 0), trial.Used(2)), 5)
			wantJust(t, "a bit beyond the slots, alone", trial.Lay(c, trial.Used(1), trial.Slab(k, bit, 0), trial.Used(2)), 5)
			wantJust(t, "a bit beyond the slots, in both", trial.Lay(c, trial.Used(1), trial.Slab(k, all|bit, all|bit), trial.Used(2)), 5)
			wantJust(t, "a bit beyond the slots, live alone", trial.Lay(c, trial.Used(1), trial.Slab(k, all, bit), trial.Used(2)), 5)
		}
		for s := range slotsOf[k] {
			bit := uint32(1) << s
			wantJust(t, "a live slot that is not taken", trial.Lay(c, trial.Used(3), trial.Slab(k, all&^bit, bit)), 5)
			wantJust(t, "the same beside others that are", trial.Lay(c, trial.Used(3), trial.Slab(k, all&^bit, all)), 5)
			wantHeap(t, trial.Lay(c, trial.Used(3), trial.Slab(k, bit, bit)))
		}
	}
}

// P12.1: the rule 5: Taken, or Slots, or both, are not 0 at a page that is no slab: a free span's, a used one's, the first or another one.
func TestRule5Others(t *testing.T) {
	l := layMixed()
	for _, p := range []int{0, 2, 3, 4, 5, 7, 8, 9, 19, 20, 27, 28, 39} {
		for _, bits := range []uint32{1, 2, 1 << 31, math.MaxUint32} {
			wantSpoilt(t, l, 5,
				set("taken where there is no slab", place.Taken(mixed, p), bits),
				spoil{"live where there is no slab", func(l trial.Heap) { l.SetLive(p, bits) }},
				spoil{"both where there is no slab", func(l trial.Heap) { l.SetLive(p, bits); l.Vals[place.Taken(mixed, p)] = bits }},
			)
		}
	}
}

// wantLists asks for the ways in which a list may be wrong: one has the pages of three, in their order, and one is a single page, in a list of its own; the list none has no page. Others are pages that are in no list.
func wantLists(t *testing.T, l trial.Heap, n int, three, one, none int, others []int) {
	t.Helper()
	pages, single := l.List(three), l.List(one)[0]
	if len(pages) != 3 || len(l.List(one)) != 1 || len(l.List(none)) != 0 {
		t.Fatalf("the lists have %v, %v and %v", pages, l.List(one), l.List(none))
	}
	first, middle, last := pages[0], pages[1], pages[2]
	next := func(p int) int { return place.Next(l.Config, p) }
	prev := func(p int) int { return place.Prev(l.Config, p) }
	link := func(p int) uint32 { return uint32(p) + 1 }
	ways := []spoil{
		set("another list's page", none, link(single)),
		{"another list's page ahead of all", func(l trial.Heap) { l.Pull(one, single); l.Push(three, single) }},
		{"another list's page behind all", func(l trial.Heap) { l.Pull(one, single); l.Append(three, single) }},
		{"two lists changed", func(l trial.Heap) { l.Relink(one, pages...); l.Relink(three, single) }},
		{"the page in a list that is to have none", func(l trial.Heap) { l.Pull(one, single); l.Push(none, single) }},
		set("a circle of one", next(single), link(single)),
		{"a circle of one, with its Prev", func(l trial.Heap) { l.Vals[next(single)], l.Vals[prev(single)] = link(single), link(single) }},
		set("the last one leads to itself", next(last), link(last)),
		set("a circle to the first one", next(last), link(first)),
		{"a circle to the first one, with its Prev", func(l trial.Heap) { l.Vals[next(last)], l.Vals[prev(first)] = link(first), link(last) }},
		set("a circle to the second one", next(last), link(middle)),
		{"a circle to the second one, with its Prev", func(l trial.Heap) { l.Vals[next(last)], l.Vals[prev(middle)] = link(middle), link(last) }},
		set("the first one's Prev is a page", prev(first), link(last)),
		set("the first one's Prev is itself", prev(first), link(first)),
		set("the first one's Prev is none", prev(first), math.MaxUint32),
		set("the second one's Prev is 0", prev(middle), 0),
		set("the second one's Prev is behind it", prev(middle), link(last)),
		set("the second one's Prev is itself", prev(middle), link(middle)),
		set("the last one's Prev is the first one", prev(last), link(first)),
		set("the last one's Prev is no page", prev(last), uint32(l.Pages)+1),
		set("the last one's Prev is a list's cell", prev(last), uint32(three)),
		set("the single one is in no list", one, 0),
	}
	for _, p := range pages {
		ways = append(ways, spoil{"one is in no list", func(l trial.Heap) { l.Pull(three, p) }})
	}
	for _, to := range append(others, single) {
		ways = append(ways, set("the list of no page leads elsewhere", none, link(to)),
			set("the single one leads elsewhere", one, link(to)),
			spoil{"a page more ahead", func(l trial.Heap) { l.Push(three, to) }},
			spoil{"a page more behind", func(l trial.Heap) { l.Append(three, to) }})
	}
	pagesEnd := uint32(l.Pages) + 1
	for _, to := range []uint32{pagesEnd, pagesEnd + 1, 1024, 1025, 1 << 16, 1<<16 + 1, 1 << 31, 1<<31 + 1, math.MaxUint32} {
		ways = append(ways, set("the list of no page leads to no page", none, to), set("the single one leads to no page", one, to),
			set("the last one leads to no page", next(last), to), set("behind the single one is no page", next(single), to))
	}
	for _, way := range ways {
		spoilt := l.Copied()
		way.do(spoilt)
		// Some values that a cell gets it may have already.
		if !slices.Equal(spoilt.Vals, l.Vals) {
			wantJust(t, way.what, spoilt, n)
		}
	}
}

// P12.1: the rule 6: each way in which a bin may be wrong.
func TestRule6(t *testing.T) {
	l := layMixed()
	wantHeap(t, l)
	// A page of a used span, its first one or not, of a free one behind its first, and a full slab.
	others := []int{0, 3, 5, 8, 39, 6, 10}
	for none := range bins {
		if len(l.List(place.Bin(none))) == 0 {
			wantLists(t, l, 6, place.Bin(0), place.Bin(3), place.Bin(none), others)
			wantLists(t, l, 6, place.Bin(1), place.Bin(3), place.Bin(none), others)
		}
	}
	single := l.List(place.Rack(1))[0]
	wantSpoilt(t, l, 6, set("a bin of a slab that is in its rack", place.Bin(7), uint32(single)+1))
}

// P12.1: the rule 6: a free span stands in the bin just above, or just below, the one of its length, for each length beside a power of two.
func TestRule6WrongBin(t *testing.T) {
	for k := range bins {
		for _, n := range []int{1<<k - 1, 1 << k, 1<<k + 1, 3 << k / 2, 2<<k - 1} {
			if n < 1 || n > 1024 {
				continue
			}
			c := api.Config{Threads: 1, Pages: max(n, 4), Shift: 10}
			l := trial.Lay(c, slices.Concat([]trial.Piece{trial.Free(n)}, slices.Repeat([]trial.Piece{trial.Used(1)}, c.Pages-n))...)
			wantHeap(t, l)
			right := trial.Free(n).List()
			for bin := range bins {
				if place.Bin(bin) != right {
					wantSpoilt(t, l, 6, spoil{"another bin", func(l trial.Heap) { l.Pull(right, 0); l.Push(place.Bin(bin), 0) }})
				}
			}
		}
	}
}

// P12.1: the rule 7: each way in which a rack may be wrong; a full slab is one.
func TestRule7(t *testing.T) {
	l := layMixed()
	wantHeap(t, l)
	// A page of a used span, its first one or not, of a free one behind its first, and full slabs, of the class of the rack and of another one.
	others := []int{0, 3, 5, 8, 39, 10, 6, 16}
	for none := range classes {
		if len(l.List(place.Rack(none))) == 0 {
			wantLists(t, l, 7, place.Rack(0), place.Rack(1), place.Rack(none), others)
			wantLists(t, l, 7, place.Rack(0), place.Rack(5), place.Rack(none), others)
		}
	}
	single := l.List(place.Bin(3))[0]
	wantSpoilt(t, l, 7,
		set("a rack of a free span that is in its bin", place.Rack(7), uint32(single)+1),
		spoil{"a full slab", func(l trial.Heap) { l.Push(place.Rack(0), 10) }},
		spoil{"a full slab in a rack that had none", func(l trial.Heap) { l.Push(place.Rack(8), 6) }},
	)
}

// P12.1: the rule 7: of each class a full slab is in no rack, and one that lacks a slot, whichever, is in the rack of its class.
func TestRule7OfEachClass(t *testing.T) {
	c := api.Config{Threads: 1, Pages: 4, Shift: 10}
	for k := range classes {
		l := trial.Lay(c, trial.Used(1), trial.Slab(k, full(k), 1), trial.Used(2))
		wantHeap(t, l)
		for rack := range classes {
			wantSpoilt(t, l, 7, spoil{"a full slab", func(l trial.Heap) { l.Push(place.Rack(rack), 1) }})
		}
		for s := range slotsOf[k] {
			l := trial.Lay(c, trial.Used(1), trial.Slab(k, full(k)&^(1<<s), 0), trial.Used(2))
			wantHeap(t, l)
			wantSpoilt(t, l, 7, spoil{"one that is not full, in none", func(l trial.Heap) { l.Pull(place.Rack(k), 1) }})
			for rack := range classes {
				if rack != k {
					wantSpoilt(t, l, 7, spoil{"another class's", func(l trial.Heap) { l.Pull(place.Rack(k), 1); l.Push(place.Rack(rack), 1) }})
				}
			}
		}
	}
}

// P12.1: the rule 8: a page that is in no list has a Next, or a Prev.
func TestRule8(t *testing.T) {
	var ways []spoil
	l := layMixed()
	for _, p := range []int{0, 3, 4, 5, 6, 8, 9, 10, 13, 15, 16, 19, 20, 22, 24, 28, 39} {
		for _, val := range []uint32{1, 3, uint32(p) + 1, 40, 41, 1 << 31, math.MaxUint32} {
			ways = append(ways, set("a Next", place.Next(mixed, p), val), set("a Prev", place.Prev(mixed, p), val),
				spoil{"both", func(l trial.Heap) { l.Vals[place.Next(mixed, p)], l.Vals[place.Prev(mixed, p)] = val, val }})
		}
	}
	wantSpoilt(t, l, 8, ways...)
}

// P12.1: the rule 9: Free and Live are one too many, one too few, none, or another number with the same low bits.
func TestRule9(t *testing.T) {
	for _, l := range []trial.Heap{layMixed(), trial.Lay(mixed, trial.Free(40)), trial.Lay(mixed, trial.Used(40)), trial.Lay(mixed, slices.Repeat([]trial.Piece{trial.Slab(0, math.MaxUint32, math.MaxUint32)}, 40)...)} {
		var ways []spoil
		for _, cell := range []int{place.Free, place.Live} {
			is := l.Vals[cell]
			for _, val := range []uint32{is + 1, is - 1, 0, 40, 41, is + 1<<8, is + 1<<16, is + 1<<31, math.MaxUint32} {
				if val != is {
					ways = append(ways, set("a count", cell, val))
				}
			}
		}
		ways = append(ways, spoil{"one for another", func(l trial.Heap) { l.Vals[place.Free]--; l.Vals[place.Live]++ }})
		wantSpoilt(t, l, 9, ways...)
	}
}

// P12.1: the rule 10: each root may name each byte where a live block begins, and none else: not the inside of one, a page of it behind the first, a free span, a slot that is free, or taken and not live, what is left behind the slots, or no page at all.
func TestRule10EachByte(t *testing.T) {
	c := api.Config{Threads: 1, Pages: 9, Shift: 10}
	pieces := []trial.Piece{trial.Used(1), trial.Slab(0, 1<<31|13, 1<<31|5), trial.Slab(1, full(1), 1<<20|2), trial.Free(1), trial.Used(2), trial.Slab(5, 18, 2), trial.Slab(8, 3, 2), trial.Used(1)}
	l := trial.Lay(c, pieces...)
	live := map[uint32]bool{0: true}
	for _, b := range liveOf(c, pieces...) {
		live[uint32(b.Addr)] = true
	}
	for a := range uint32(12 * 1024) {
		i := int(a) % roots
		l.Vals[place.Root(i)] = a
		n, ok := audit.Check(c, l.Vals)
		if want := live[a]; ok != want || !want && n != 10 || want && n != 0 {
			t.Fatalf("the root %d names %d: Check() = %d, %v", i, a, n, ok)
		}
		l.Vals[place.Root(i)] = 0
	}
}

// P12.1: the rule 10, of each root, in a heap of which the other roots name live blocks.
func TestRule10EachRoot(t *testing.T) {
	var ways []spoil
	for i := range roots {
		for what, a := range map[string]uint32{
			"the inside of a block": 1025, "the last byte of a block": 2047, "the second page of a block": 5 * 1024, "a free span": 3 * 1024,
			"a page of a free span": 9 * 1024, "a slot that is free": 2*1024 + 2*32, "a slot that is taken, and not live": 2*1024 + 32,
			"the inside of a slot": 2*1024 + 16, "what is left behind slots": 27*1024 + 960, "the last page, which is free": 40 * 1024,
			"no page": 1, "the last byte ahead of the pages": 1023, "behind the pages": 41 * 1024, "far behind": 1 << 31,
			"all bits": math.MaxUint32, "a page's number": 13, "as a block, with a bit more": 1024 + 1<<31,
		} {
			ways = append(ways, set(what, place.Root(i), a))
		}
	}
	wantSpoilt(t, layMixed(), 10, ways...)
	l := layMixed()
	for i := range roots {
		for _, a := range []uint32{0, 1024, 4 * 1024, 2 * 1024, 7*1024 + 512, 19*1024 + 32, 23 * 1024} {
			l.Vals[place.Root(i)] = a
			wantHeap(t, l)
		}
	}
}

// breaks are, of each rule from 1 on, a way to break just it in the heap of all that there may be, that leaves each other one of them to be done.
func breaks() []func(l *trial.Heap) {
	return []func(l *trial.Heap){
		func(l *trial.Heap) { l.Vals = append(l.Vals, 0) },
		func(l *trial.Heap) { l.Vals[place.Info(mixed, 4)] = 0x12 },
		func(l *trial.Heap) { l.Vals[place.Foot(mixed, 19)] = 20 },
		func(l *trial.Heap) {
			// The used page between two free spans is a free one, too.
			l.Vals[place.Info(mixed, 22)] = 0x11
			l.Push(place.Bin(0), 22)
			l.Vals[place.Free]++
			l.Vals[place.Live]--
		},
		func(l *trial.Heap) { l.Vals[place.Taken(mixed, 13)] = 1 },
		func(l *trial.Heap) { l.Vals[place.Bin(9)] = 1 },
		func(l *trial.Heap) { l.Vals[place.Rack(4)] = 7 },
		func(l *trial.Heap) { l.Vals[place.Prev(mixed, 39)] = 40 },
		func(l *trial.Heap) { l.Vals[place.Live] += 5 },
		func(l *trial.Heap) { l.Vals[place.Root(5)] = 7 },
	}
}

// P12.1: of several rules that do not hold the first one is told: each with each later one, and each with all later ones.
func TestFirstRuleIsTold(t *testing.T) {
	ways := breaks()
	for i := range ways {
		alone := layMixed()
		ways[i](&alone)
		if i > 0 {
			wantJust(t, "alone", alone, i+1)
		}
		wantNone(t, "alone", alone, i+1)
		for k := i + 1; k < len(ways); k++ {
			both := layMixed()
			ways[k](&both)
			ways[i](&both)
			wantNone(t, "with a later one", both, i+1)
		}
		rest := layMixed()
		for k := len(ways) - 1; k >= i; k-- {
			ways[k](&rest)
		}
		wantNone(t, "with all later ones", rest, i+1)
	}
}

// wantAsBroken asks whether the first rule that does not hold is told.
func wantAsBroken(t *testing.T, l trial.Heap) {
	t.Helper()
	rules := broken(l)
	before := slices.Clone(l.Vals)
	if len(rules) == 0 {
		wantHeap(t, l)
	} else {
		wantNone(t, "values by chance", l, rules[0])
	}
	if !slices.Equal(before, l.Vals) {
		t.Fatal("the values changed")
	}
}

// P12.1: each cell of some heaps, with each of many values, and with each value of the other cells.
func TestEachCell(t *testing.T) {
	c := api.Config{Threads: 1, Pages: 7, Shift: 10}
	for _, l := range []trial.Heap{
		trial.Lay(c, trial.Free(7)), trial.Lay(c, trial.Free(1), trial.Used(1), trial.Free(1), trial.Used(1), trial.Free(1), trial.Used(1), trial.Free(1)),
		trial.Lay(c, trial.Used(2), trial.Free(2), trial.Slab(8, 3, 1), trial.Slab(8, 1, 1), trial.Slab(8, 2, 0)), trial.Lay(c, trial.Slab(7, 7, 7), trial.Free(3), trial.Used(1), trial.Free(2)),
	} {
		vals := map[uint32]bool{math.MaxUint32: true}
		for k := range uint32(12) {
			vals[k], vals[k<<4|1], vals[k<<4|2], vals[k<<16|0x13], vals[1024*k] = true, true, true, true, true
		}
		for _, val := range l.Vals {
			vals[val] = true
		}
		for cell := range l.Vals {
			for val := range vals {
				spoilt := l.Copied()
				spoilt.Vals[cell] = val
				wantAsBroken(t, spoilt)
			}
		}
	}
}

// P12.1: heaps of which some cells get other values, by chance; and values that were no heap ever.
func TestByChance(t *testing.T) {
	x := trial.Chance(5)
	for range 6000 {
		c := api.Config{Threads: 1 + x.Next(3), Pages: 4 + x.Next(12), Shift: 10 + x.Next(11)}
		l := trial.Lay(c, x.Pieces(c.Pages)...)
		for range 1 + x.Next(3) {
			cell := x.Next(len(l.Vals))
			switch x.Next(4) {
			case 0:
				l.Vals[cell] = l.Vals[x.Next(len(l.Vals))]
			case 1:
				l.Vals[cell] ^= 1 << x.Next(32)
			case 2:
				l.Vals[cell] = uint32(x.Next(c.Pages + 2))
			default:
				l.Vals[cell] = trial.Piece{Info: api.Info{Kind: x.Next(5), Len: x.Next(4), Class: x.Next(2) * x.Next(11)}}.Value()
			}
		}
		wantAsBroken(t, l)
		for cell := range l.Vals {
			l.Vals[cell] = uint32(x.Next(4)) * uint32(x.Next(c.Pages))
		}
		wantAsBroken(t, l)
	}
}

// P12.2: Same is true of states that are the same, also where a list is nil, and one is empty.
func TestSameStates(t *testing.T) {
	state := func() api.State {
		return api.State{Live: []api.Block{{Addr: 1024, Size: 32}, {Addr: 1056, Size: 32}, {Addr: 4096, Size: 1024}}, Roots: [roots]int64{0, 1024, 1056, 4: 1024, 7: 4096}}
	}
	a := state()
	if !audit.Same(a, a) || !audit.Same(a, state()) || !audit.Same(api.State{}, api.State{Live: []api.Block{}}) || !audit.Same(api.State{Live: []api.Block{}}, api.State{}) {
		t.Fatal("Same() is false of the same states")
	}
	long := state()
	long.Live = append(long.Live, api.Block{Addr: 9})
	a.Live = long.Live[:3]
	if !audit.Same(a, state()) {
		t.Fatal("Same() asks for what is behind a list")
	}
	l := layMixed()
	one, _ := audit.State(l.Config, l.Vals)
	two, _ := audit.State(l.Config, slices.Clone(l.Vals))
	if !audit.Same(one, two) {
		t.Fatal("Same() is false of one heap's states")
	}
}

// P12.2: Same is false of states that differ in one address, one size, one root, or how many blocks there are, wherever it stands.
func TestStatesThatDiffer(t *testing.T) {
	l := layMixed()
	state := func() api.State {
		s, _ := audit.State(l.Config, l.Vals)
		s.Live = slices.Clone(s.Live)
		return s
	}
	differ := func(what string, b api.State) {
		t.Helper()
		if audit.Same(state(), b) || audit.Same(b, state()) {
			t.Fatalf("Same() is true of states that differ: %s", what)
		}
	}
	for i := range state().Live {
		s := state()
		s.Live[i].Addr++
		differ("an address", s)
		s = state()
		s.Live[i].Size--
		differ("a size", s)
		s = state()
		s.Live[i].Size += 1 << 32
		differ("a size above", s)
		s = state()
		s.Live = slices.Delete(s.Live, i, i+1)
		differ("a block less", s)
		s = state()
		s.Live = slices.Insert(s.Live, i, s.Live[i])
		differ("a block more", s)
		if i > 0 {
			s = state()
			s.Live[0], s.Live[i] = s.Live[i], s.Live[0]
			differ("another order", s)
		}
	}
	s := state()
	s.Live = append(s.Live, api.Block{})
	differ("an empty block more", s)
	s.Live = nil
	differ("no blocks", s)
	for i := range roots {
		s := state()
		s.Roots[i] += 1 << 32
		differ("a root", s)
		s.Roots[i] = 5
		differ("a root", s)
	}
}

// P12.2: State tells the values of the roots, each at its place, also of blocks at the greatest addresses.
func TestStateOfTheGreatestAddresses(t *testing.T) {
	c := api.Config{Threads: 16, Pages: 1024, Shift: 20}
	pieces := []trial.Piece{trial.Slab(8, 1, 1), trial.Free(1000), trial.Used(21), trial.Slab(0, 1<<31, 1<<31), trial.Slab(8, 3, 2)}
	l := trial.Lay(c, pieces...)
	var want [roots]int64
	for i, a := range []int64{1 << 20, 1002 << 20, 1023<<20 + 31<<15, 1024<<20 + 1<<19} {
		want[i*2] = a
		l.Vals[place.Root(i*2)] = uint32(a)
	}
	wantHeap(t, l)
	s, ok := audit.State(c, l.Vals)
	if !ok || s.Roots != want || !slices.Equal(s.Live, []api.Block{
		{Addr: 1 << 20, Size: 1 << 19}, {Addr: 1002 << 20, Size: 21 << 20}, {Addr: 1023<<20 + 31<<15, Size: 1 << 15}, {Addr: 1024<<20 + 1<<19, Size: 1 << 19},
	}) {
		t.Fatalf("State() = %v, %v", s, ok)
	}
	l.Vals[place.Root(1)] = 1025 << 20
	wantJust(t, "the first byte behind the pages", l, 10)
}

// P12.3: each kind of part, with what is left behind slots, and without it.
func TestParts(t *testing.T) {
	c := api.Config{Threads: 1, Pages: 5, Shift: 10}
	l := trial.Lay(c, trial.Slab(7, 6, 4), trial.Free(2), trial.Used(1), trial.Slab(8, 1, 0))
	want := []api.Part{
		{Kind: api.PtSlot, Addr: 1024, Size: 336}, {Kind: api.PtPocket, Addr: 1360, Size: 336}, {Kind: api.PtLive, Addr: 1696, Size: 336},
		{Kind: api.PtSlack, Addr: 2032, Size: 16}, {Kind: api.PtFree, Addr: 2048, Size: 2048}, {Kind: api.PtLive, Addr: 4096, Size: 1024},
		{Kind: api.PtPocket, Addr: 5120, Size: 512}, {Kind: api.PtSlot, Addr: 5632, Size: 512},
	}
	if got := audit.Parts(c, l.Vals); !slices.Equal(got, want) {
		t.Fatalf("Parts() = %v, want %v", got, want)
	}
	live := []api.Block{{Addr: 1696, Size: 336}, {Addr: 4096, Size: 1024}}
	if got := audit.Live(c, l.Vals); !slices.Equal(got, live) {
		t.Fatalf("Live() = %v, want %v", got, live)
	}
}
