package place_test

import (
	"math"
	"testing"

	"nacre/api"
	"nacre/place"
)

// The numbers of the document are written out: so the tests hold the limits, too.
const (
	bins      = 11
	classes   = 9
	roots     = 8
	fields    = 4
	pageCells = 6
	entries   = 96
	line      = 8
	// A maker has 15 lines: two of its calls, one of its note, 12 of its log.
	makerWords = 15 * line
)

// far are ints that no place and no number of a thing may be, also those of which the low bits could be one, and those whose multiples wrap round.
var far = []int{-1, -2, -3, -6, -8, -15, -16, -22, -30, -120, -1024, math.MinInt16, math.MinInt32, math.MinInt32 - 1, -1 << 32, -1<<32 + 1, -1 << 60, -1 << 62, -1<<62 + 1, 1 << 16, 1<<16 + 1, 1<<16 + 16, math.MaxInt32, 1 << 31, 1<<31 + 1, 1 << 32, 1<<32 + 1, 1<<32 + 30, 1 << 61, 1<<61 + 1, 1 << 62, 1<<62 + 1, math.MaxInt/6 + 1, math.MaxInt/120 + 1, math.MaxInt - 16, math.MaxInt - 1, math.MaxInt, math.MinInt, math.MinInt + 1, math.MinInt + 16}

// outside are ints that are none of count things: those just beyond both ends, and those far from them.
func outside(count int) []int {
	return append([]int{-1, count, count + 1, 2 * count}, far...)
}

// some are right configurations, of which the cells end at all places of a line that there are; the least and the greatest ones are among them.
func some(see func(c api.Config)) {
	for _, threads := range []int{1, 2, 3, 4, 15, 16} {
		for _, pages := range []int{4, 5, 6, 7, 8, 9, 10, 11, 64, 1023, 1024} {
			for _, shift := range []int{10, 15, 20} {
				see(api.Config{Threads: threads, Pages: pages, Shift: shift})
			}
		}
	}
}

// all are all right configurations of one shift.
func all(see func(c api.Config)) {
	for threads := 1; threads <= 16; threads++ {
		for pages := 4; pages <= 1024; pages++ {
			see(api.Config{Threads: threads, Pages: pages, Shift: 10})
		}
	}
}

// wrong are configurations of which one number, or all, may not be, each just beyond an end, and far.
func wrong() []api.Config {
	list := []api.Config{{}, {Threads: -1, Pages: -1, Shift: -1}, {Threads: 17, Pages: 1025, Shift: 21}, {Threads: 0, Pages: 3, Shift: 9}}
	for _, n := range append([]int{0, 17, 18, 32}, far...) {
		list = append(list, api.Config{Threads: n, Pages: 8, Shift: 10})
	}
	for _, n := range append([]int{0, 1, 3, 1025, 2048}, far...) {
		list = append(list, api.Config{Threads: 2, Pages: n, Shift: 10})
	}
	for _, n := range append([]int{0, 1, 9, 21, 22, 63, 64}, far...) {
		list = append(list, api.Config{Threads: 2, Pages: 8, Shift: n})
	}
	return list
}

// pageFaces are the cells of a page, in the order in which they stand.
var pageFaces = []struct {
	name string
	of   func(c api.Config, p int) int
}{
	{"Info", place.Info}, {"Foot", place.Foot}, {"Next", place.Next}, {"Prev", place.Prev}, {"Slots", place.Slots}, {"Taken", place.Taken},
}

func want(t *testing.T, name string, c api.Config, i, j, got, want int) {
	// Helper is slow, and calls are many.
	if got != want {
		t.Helper()
		t.Fatalf("%s of %v, %d, %d: %d, want %d", name, c, i, j, got, want)
	}
}

func wantAt(t *testing.T, c api.Config, w int, want api.What) {
	if got := place.At(c, w); got != want {
		t.Helper()
		t.Fatalf("At(%v, %d) = %v, want %v", c, w, got, want)
	}
}

// P7.1: the counts, and then the bins, racks and roots, have the same cells in all memories.
func TestCellsOfAllMemories(t *testing.T) {
	want(t, "Free", api.Config{}, 0, 0, place.Free, 0)
	want(t, "Live", api.Config{}, 0, 0, place.Live, 1)
	cell := 2
	check := func(name string, count int, of func(i int) int) {
		for i := range count {
			want(t, name, api.Config{}, i, 0, of(i), cell)
			cell++
		}
		for _, i := range outside(count) {
			want(t, name, api.Config{}, i, 0, of(i), -1)
		}
	}
	check("Bin", bins, place.Bin)
	check("Rack", classes, place.Rack)
	check("Root", roots, place.Root)
	if place.Bin(10) != 12 || place.Rack(0) != 13 || place.Rack(8) != 21 || place.Root(0) != 22 || place.Root(7) != 29 {
		t.Fatal(place.Bin(10), place.Rack(0), place.Rack(8), place.Root(0), place.Root(7))
	}
}

// P7.1: behind the roots, from 30 on, stand four cells of each thread, and then six of each page; and no more.
func TestCellsOfThreadsAndPages(t *testing.T) {
	some(func(c api.Config) {
		cell := 30
		for thread := range c.Threads {
			for f := range fields {
				want(t, "Done", c, thread, f, place.Done(c, thread, f), cell)
				cell++
			}
		}
		for p := range c.Pages {
			for _, face := range pageFaces {
				want(t, face.name, c, p, 0, face.of(c, p), cell)
				cell++
			}
		}
		want(t, "Cells", c, 0, 0, place.Cells(c), cell)
	})
}

// P7.1: Cells, and the first and the last cell of threads and pages, of all right configurations.
func TestCellsEnds(t *testing.T) {
	all(func(c api.Config) {
		first := 30 + fields*c.Threads
		want(t, "Done", c, 0, 0, place.Done(c, 0, 0), 30)
		want(t, "Done", c, c.Threads-1, 3, place.Done(c, c.Threads-1, 3), first-1)
		want(t, "Info", c, 0, 0, place.Info(c, 0), first)
		want(t, "Taken", c, c.Pages-1, 0, place.Taken(c, c.Pages-1), first+pageCells*c.Pages-1)
		want(t, "Cells", c, 0, 0, place.Cells(c), first+pageCells*c.Pages)
	})
}

// P7.1: no other thread, field or page has a cell.
func TestNoCells(t *testing.T) {
	some(func(c api.Config) {
		for _, thread := range outside(c.Threads) {
			for _, f := range []int{-1, 0, 3, 4} {
				want(t, "Done", c, thread, f, place.Done(c, thread, f), -1)
			}
		}
		for _, f := range outside(fields) {
			want(t, "Done", c, 0, f, place.Done(c, 0, f), -1)
			want(t, "Done", c, c.Threads-1, f, place.Done(c, c.Threads-1, f), -1)
		}
		for _, p := range outside(c.Pages) {
			for _, face := range pageFaces {
				want(t, face.name, c, p, 0, face.of(c, p), -1)
			}
		}
	})
}

// P7.1, P7.2: what is not right has no cells, no words, no places and nothing that a word is; but bins, racks and roots hang on no configuration.
func TestWrongConfigurations(t *testing.T) {
	numbers := append([]int{0, 1, 2, 8, 9, 16, 17, 80, 95, 96, 200, 439, 440}, far...)
	for _, c := range wrong() {
		want(t, "Cells", c, 0, 0, place.Cells(c), 0)
		want(t, "Words", c, 0, 0, place.Words(c), 0)
		for _, i := range numbers {
			for _, j := range []int{-1, 0, 1, 3, math.MaxInt, math.MinInt} {
				want(t, "Done", c, i, j, place.Done(c, i, j), -1)
				want(t, "Call", c, i, j, place.Call(c, i, j), -1)
				want(t, "Log", c, i, j, place.Log(c, i, j), -1)
			}
			for _, face := range pageFaces {
				want(t, face.name, c, i, 0, face.of(c, i), -1)
			}
			want(t, "Word", c, i, 0, place.Word(c, i), -1)
			want(t, "Note", c, i, 0, place.Note(c, i), -1)
			wantAt(t, c, i, api.What{})
		}
	}
}

// lineBehind is the first word of the first line behind the cells: it is looked for line by line.
func lineBehind(c api.Config) int {
	first := 0
	for first < 16+place.Cells(c) {
		first += line
	}
	return first
}

// P7.2: the tip is the word 8; the cells' words are those from 16 on, and no other cell has one.
func TestWordsOfCells(t *testing.T) {
	want(t, "Tip", api.Config{}, 0, 0, place.Tip, 8)
	some(func(c api.Config) {
		for cell := range place.Cells(c) {
			want(t, "Word", c, cell, 0, place.Word(c, cell), 16+cell)
		}
		for _, cell := range outside(place.Cells(c)) {
			want(t, "Word", c, cell, 0, place.Word(c, cell), -1)
		}
	})
}

// P7.2: from the first line behind the cells on, each maker has its two calls, its note and its log, line by line; the last one is the mending; and then the words end.
func TestWordsOfMakers(t *testing.T) {
	all(func(c api.Config) {
		w := lineBehind(c)
		for maker := 0; maker <= c.Threads; maker++ {
			for b := range 2 {
				want(t, "Call", c, maker, b, place.Call(c, maker, b), w)
				w += line
			}
			want(t, "Note", c, maker, 0, place.Note(c, maker), w)
			w += line
			for i := range entries {
				want(t, "Log", c, maker, i, place.Log(c, maker, i), w)
				w++
			}
		}
		want(t, "Words", c, 0, 0, place.Words(c), w)
	})
}

// P7.2: makers begin just behind the cells if those end with a line, and else at the next line.
func TestFirstLineBehindTheCells(t *testing.T) {
	for _, e := range []struct{ threads, pages, cells, first int }{
		{1, 4, 58, 80},
		{1, 5, 64, 80},
		{1, 6, 70, 88},
		{1, 7, 76, 96},
		{2, 4, 62, 80},
		{2, 6, 74, 96},
		{2, 7, 80, 96},
		{2, 8, 86, 104},
		{3, 5, 72, 88},
		{16, 1024, 6238, 6256},
	} {
		c := api.Config{Threads: e.threads, Pages: e.pages, Shift: 10}
		want(t, "Cells", c, 0, 0, place.Cells(c), e.cells)
		want(t, "Call", c, 0, 0, place.Call(c, 0, 0), e.first)
		want(t, "Words", c, 0, 0, place.Words(c), e.first+(e.threads+1)*makerWords)
		wantAt(t, c, e.first, api.What{Kind: api.WhCall})
		wantAt(t, c, 16+e.cells-1, api.What{Kind: api.WhCell, A: e.cells - 1})
		for w := 16 + e.cells; w < e.first; w++ {
			wantAt(t, c, w, api.What{})
		}
	}
}

// P7.2: no other maker, call or entry has a word.
func TestNoWords(t *testing.T) {
	some(func(c api.Config) {
		for _, maker := range outside(c.Threads + 1) {
			for _, i := range []int{-1, 0, 1, 2, 95, 96} {
				want(t, "Call", c, maker, i, place.Call(c, maker, i), -1)
				want(t, "Log", c, maker, i, place.Log(c, maker, i), -1)
			}
			want(t, "Note", c, maker, 0, place.Note(c, maker), -1)
		}
		for _, maker := range []int{0, c.Threads - 1, c.Threads} {
			for _, b := range outside(2) {
				want(t, "Call", c, maker, b, place.Call(c, maker, b), -1)
			}
			for _, i := range outside(entries) {
				want(t, "Log", c, maker, i, place.Log(c, maker, i), -1)
			}
		}
	})
}

// whats is what each word is that is something: all that the functions tell of places, put down word by word.
func whats(c api.Config) map[int]api.What {
	list := map[int]api.What{place.Tip: {Kind: api.WhTip}}
	for w := range 8 {
		list[w] = api.What{Kind: api.WhHead, A: w}
	}
	for cell := range place.Cells(c) {
		list[place.Word(c, cell)] = api.What{Kind: api.WhCell, A: cell}
	}
	for maker := 0; maker <= c.Threads; maker++ {
		for b := range 16 {
			list[place.Call(c, maker, b/8)+b%8] = api.What{Kind: api.WhCall, A: maker, B: b}
		}
		list[place.Note(c, maker)] = api.What{Kind: api.WhNote, A: maker}
		for i := range entries {
			list[place.Log(c, maker, i)] = api.What{Kind: api.WhLog, A: maker, B: i}
		}
	}
	return list
}

// P7.3, P7.4: At says of each word what it is, and of all others that they are nothing; and no two things have one word.
func TestAtSaysWhatEachWordIs(t *testing.T) {
	some(func(c api.Config) {
		list := whats(c)
		if things := 9 + place.Cells(c) + (c.Threads+1)*(16+1+entries); len(list) != things {
			t.Fatalf("%v: %d things have %d words", c, things, len(list))
		}
		for w := -line; w < place.Words(c)+2*makerWords; w++ {
			wantAt(t, c, w, list[w])
		}
		for _, w := range far {
			if w < 0 || w >= place.Words(c) {
				wantAt(t, c, w, api.What{})
			}
		}
	})
}

// P7.3: the words behind the tip, those behind a note, and those beyond the end are nothing.
func TestAtOfNothing(t *testing.T) {
	some(func(c api.Config) {
		for w := 9; w <= 15; w++ {
			wantAt(t, c, w, api.What{})
		}
		for maker := 0; maker <= c.Threads; maker++ {
			note := place.Note(c, maker)
			wantAt(t, c, note, api.What{Kind: api.WhNote, A: maker})
			for w := note + 1; w < place.Log(c, maker, 0); w++ {
				wantAt(t, c, w, api.What{})
			}
		}
		last := place.Words(c) - 1
		wantAt(t, c, last, api.What{Kind: api.WhLog, A: c.Threads, B: entries - 1})
		wantAt(t, c, last+1, api.What{})
		wantAt(t, c, -1, api.What{})
	})
}

// P7.4: unlike things have unlike cells: each cell below Cells is one thing's.
func TestUnlikeThingsHaveUnlikeCells(t *testing.T) {
	some(func(c api.Config) {
		seen := make([]int, place.Cells(c))
		seen[place.Free]++
		seen[place.Live]++
		for k := range bins {
			seen[place.Bin(k)]++
		}
		for k := range classes {
			seen[place.Rack(k)]++
		}
		for i := range roots {
			seen[place.Root(i)]++
		}
		for thread := range c.Threads {
			for f := range fields {
				seen[place.Done(c, thread, f)]++
			}
		}
		for p := range c.Pages {
			for _, face := range pageFaces {
				seen[face.of(c, p)]++
			}
		}
		for cell, n := range seen {
			if n != 1 {
				t.Fatalf("%v: the cell %d is that of %d things", c, cell, n)
			}
		}
	})
}

// owner is whose a word is: a maker's, or that of the cells, or that of what all memories have (the head, the tip).
func owner(x api.What) (string, int) {
	switch x.Kind {
	case api.WhCall, api.WhNote, api.WhLog:
		return "maker", x.A
	case api.WhCell:
		return "cells", 0
	case api.WhHead:
		return "head", 0
	}
	return "tip", 0
}

// P7.4: a line has words of one maker alone, and none of a maker and a cell; nor any of those and of the head or the tip. All words stand in whole lines.
func TestLinesHaveOneOwner(t *testing.T) {
	all(func(c api.Config) {
		if c.Pages > 64 && c.Pages < 1016 {
			return
		}
		if place.Words(c)%line != 0 {
			t.Fatalf("%v: %d words", c, place.Words(c))
		}
		for from := 0; from < place.Words(c); from += line {
			name, who := "", 0
			for w := from; w < from+line; w++ {
				x := place.At(c, w)
				if x.Kind == api.WhNone {
					continue
				}
				n, o := owner(x)
				if name != "" && (n != name || o != who) {
					t.Fatalf("%v: the line of the word %d has words of %s %d and of %s %d", c, w, name, who, n, o)
				}
				name, who = n, o
			}
		}
	})
}

// P7.1, P7.2: how great a page is says nothing of where things stand; and no memory has more than 2^16 words.
func TestShiftMovesNothing(t *testing.T) {
	for shift := 10; shift <= 20; shift++ {
		for _, pages := range []int{4, 7, 1024} {
			for _, threads := range []int{1, 2, 16} {
				c := api.Config{Threads: threads, Pages: pages, Shift: shift}
				least := api.Config{Threads: threads, Pages: pages, Shift: 10}
				want(t, "Cells", c, 0, 0, place.Cells(c), place.Cells(least))
				want(t, "Words", c, 0, 0, place.Words(c), place.Words(least))
				want(t, "Taken", c, pages-1, 0, place.Taken(c, pages-1), place.Taken(least, pages-1))
				want(t, "Log", c, threads, 95, place.Log(c, threads, 95), place.Log(least, threads, 95))
				if n := place.Words(c); n > 1<<16 {
					t.Fatalf("%v: %d words", c, n)
				}
			}
		}
	}
}

// P7.1 to P7.3: the chapter's example, with both ends of each thing.
func TestExample(t *testing.T) {
	c := api.Config{Threads: 2, Pages: 4, Shift: 10}
	if place.Cells(c) != 62 || place.Words(c) != 440 || place.Note(c, 0) != 96 {
		t.Fatal(place.Cells(c), place.Words(c), place.Note(c, 0))
	}
	if place.Done(c, 0, 0) != 30 || place.Done(c, 1, 3) != 37 || place.Info(c, 0) != 38 || place.Foot(c, 0) != 39 || place.Next(c, 0) != 40 || place.Prev(c, 0) != 41 || place.Slots(c, 0) != 42 || place.Taken(c, 0) != 43 || place.Info(c, 1) != 44 || place.Taken(c, 3) != 61 {
		t.Fatal("cells")
	}
	if place.Word(c, 0) != 16 || place.Word(c, 61) != 77 || place.Call(c, 0, 0) != 80 || place.Call(c, 0, 1) != 88 || place.Log(c, 0, 0) != 104 || place.Log(c, 0, 95) != 199 {
		t.Fatal("words of cells, and of the first maker")
	}
	if place.Call(c, 1, 0) != 200 || place.Call(c, 2, 0) != 320 || place.Note(c, 2) != 336 || place.Log(c, 2, 0) != 344 || place.Log(c, 2, 95) != 439 {
		t.Fatal("words of the makers behind it")
	}
	wantAt(t, c, 95, api.What{Kind: api.WhCall, A: 0, B: 15})
	wantAt(t, c, 96, api.What{Kind: api.WhNote, A: 0})
	wantAt(t, c, 97, api.What{})
	wantAt(t, c, 104, api.What{Kind: api.WhLog, A: 0, B: 0})
	wantAt(t, c, 200, api.What{Kind: api.WhCall, A: 1, B: 0})
}
