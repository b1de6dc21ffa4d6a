package redo_test

import (
	"math"
	"slices"
	"testing"

	"nacre/api"
	"nacre/fresh"
	"nacre/redo"
	"nacre/trial"
)

// eight is the configuration whose words some tests write out: it has 82 cells, the words 16 to 97; the note of its maker 0 is the word 120, its log the words 128 to 223; those of the maker 1, the mending, are 120 words further on; there are 344 words.
var eight = api.Config{Threads: 1, Pages: 8, Shift: 10}

// Configurations of each sort.
var (
	rights = trial.Rights(eight)
	wrongs = slices.Concat(trial.Wrongs(eight), trial.Pageless(eight), trial.Vast(eight))
)

// How many entries a log has room for, and the greatest stamp, as the document has them.
const (
	most     = 96
	maxStamp = math.MaxUint32
)

// pairs are n entries, of cells at both ends and between them, of which no two are of one cell as long as there are so many.
func pairs(c api.Config, n int) []api.Pair {
	l := make([]api.Pair, n)
	for i := range l {
		cell := i / 2
		if i%2 == 1 {
			cell = trial.Cells(c) - 1 - i/2
		}
		l[i] = api.Pair{Cell: cell % trial.Cells(c), Val: math.MaxUint32 - uint32(i)}
	}
	return l
}

// wantLog asks whether Log tells these.
func wantLog(t *testing.T, m trial.Memory, u int, n api.Note, l []api.Pair) {
	t.Helper()
	gotNote, got, ok := redo.Log(m.Config, m.W, u)
	if !ok || gotNote != n || !slices.Equal(got, l) {
		t.Fatalf("Log of %d of %v = %v, %v, %t, not %v, %v", u, m.Config, gotNote, got, ok, n, l)
	}
}

// wantNoLog asks whether Log tells that there is none.
func wantNoLog(t *testing.T, c api.Config, w []uint64, u int) {
	t.Helper()
	if n, l, ok := redo.Log(c, w, u); ok || n != (api.Note{}) || l != nil {
		t.Fatalf("Log of %d of %v = %v, %v, %t", u, c, n, l, ok)
	}
}

// wantNotLaid asks whether Lay tells that the words can't be so.
func wantNotLaid(t *testing.T, c api.Config, w []uint64, u int, l []api.Pair) {
	t.Helper()
	if got, ok := redo.Lay(c, w, u, 1, l); ok || got != nil {
		t.Fatalf("%d entries are laid for %d of %v", len(l), u, c)
	}
}

// wantSettled asks whether the words settle to these values, and, tidied, are those others.
func wantSettled(t *testing.T, what string, m trial.Memory, vals []uint32, tidy []uint64) {
	t.Helper()
	was := slices.Clone(m.W)
	if got, ok := redo.Settle(m.Config, m.W); !ok || !slices.Equal(got, vals) {
		t.Fatalf("%s: words of %v settle to %v, %t, not %v", what, m.Config, got, ok, vals)
	}
	if got, ok := redo.Tidy(m.Config, m.W); !ok || !slices.Equal(got, tidy) {
		t.Fatalf("%s: words of %v are tidied to %x, %t, not %x", what, m.Config, got, ok, tidy)
	}
	if !slices.Equal(m.W, was) {
		t.Fatalf("%s: words of %v that were handed in are changed", what, m.Config)
	}
}

// wantUnsettled asks whether words settle to nothing.
func wantUnsettled(t *testing.T, what string, c api.Config, w []uint64) {
	t.Helper()
	if got, ok := redo.Settle(c, w); ok || got != nil {
		t.Fatalf("%s: words of %v settle to %v, %t", what, c, got, ok)
	}
	if got, ok := redo.Tidy(c, w); ok || got != nil {
		t.Fatalf("%s: words of %v are tidied to %x, %t", what, c, got, ok)
	}
}

// P27.1, P27.2: the chapter's example.
func TestExample(t *testing.T) {
	for _, c := range rights {
		w, vals := fresh.Words(c), fresh.Vals(c)
		wantSettled(t, "fresh", trial.Memory{Config: c, W: w}, vals, w)
		laid, ok := redo.Lay(c, w, 0, 1, []api.Pair{{Cell: 0, Val: 3}})
		if !ok {
			t.Fatalf("nothing is laid for %v", c)
		}
		vals[0] = 3
		tidy := slices.Clone(laid)
		tidy[16], tidy[trial.NoteAt(c, 0)] = 1<<32|3, 1<<32|1
		wantSettled(t, "laid", trial.Memory{Config: c, W: laid}, vals, tidy)
	}
}

// wantNothing asks whether all tell nothing of these words, whichever maker is meant.
func wantNothing(t *testing.T, what string, c api.Config, w []uint64) {
	t.Helper()
	wantUnsettled(t, what, c, w)
	for _, u := range []int{-1, 0, 1, 2, c.Threads, c.Threads + 1} {
		wantNoLog(t, c, w, u)
		wantNotLaid(t, c, w, u, nil)
		wantNotLaid(t, c, w, u, []api.Pair{{}})
	}
}

// P27.1 to P27.3: of as many words as a right configuration does not have all tell nothing.
func TestOtherNumbersOfWords(t *testing.T) {
	for i, c := range rights {
		w := fresh.Words(c)
		if len(w) != trial.Size(c) {
			t.Fatalf("%v has %d words, not %d", c, len(w), trial.Size(c))
		}
		long := append(slices.Clone(w), make([]uint64, 200)...)
		for _, n := range []int{0, 1, 8, 9, 16, 17, 16 + trial.Cells(c), trial.NoteAt(c, 0), trial.LogAt(c, 0), trial.LogAt(c, c.Threads), len(w) - 120, len(w) - 96, len(w) - 8, len(w) - 1, len(w) + 1, len(w) + 8, len(w) + 120} {
			wantNothing(t, "cut", c, long[:n])
		}
		wantNothing(t, "nil", c, nil)
		wantNothing(t, "another one's", c, fresh.Words(rights[(i+1)%len(rights)]))
	}
}

// P27.1 to P27.3: of configurations that are not right all tell nothing, also of as many words as one with such numbers would have, and of those of right ones.
func TestWrongConfigurations(t *testing.T) {
	for _, c := range wrongs {
		for _, w := range [][]uint64{nil, {}, make([]uint64, 9), fresh.Words(eight), fresh.Words(rights[0])} {
			wantNothing(t, "of a right one", c, w)
		}
		if c.Pages <= 1<<14 && c.Pages > 0 && c.Threads >= 0 {
			m := trial.Blank(c, 1, 0)
			for u := range c.Threads + 1 {
				m.Note(u, 1, 0)
			}
			wantNothing(t, "blank", c, m.W)
		}
	}
}

// P27.1: of a maker that is none nothing is told, and nothing laid.
func TestNoMaker(t *testing.T) {
	for _, c := range rights {
		w := fresh.Words(c)
		for _, u := range []int{
			-1, -2, -c.Threads, -17, math.MinInt, math.MinInt32, -1 << 32, c.Threads + 1, c.Threads + 2, 17, 18, 1 << 8, 1 << 16,
			1 << 31, 1 << 32, 1<<32 + 1, 1 << 61, math.MaxInt,
		} {
			wantNoLog(t, c, w, u)
			wantNotLaid(t, c, w, u, nil)
			wantNotLaid(t, c, w, u, []api.Pair{{Cell: 1, Val: 1}})
		}
	}
}

// P27.1 to P27.3: what was told is nobody else's: who changes it changes neither what was handed in nor what is told next.
func TestToldAnew(t *testing.T) {
	m := trial.Blank(eight, 7, 1)
	m.Open(1, 7, pairs(eight, 5)...)
	was := m.Copied()
	for range 2 {
		n, l, _ := redo.Log(eight, m.W, 1)
		if n.Count != 5 {
			t.Fatalf("the note is %v", n)
		}
		laid, _ := redo.Lay(eight, m.W, 0, 8, l)
		tidy, _ := redo.Tidy(eight, m.W)
		vals, _ := redo.Settle(eight, m.W)
		for i := range laid {
			laid[i]++
			tidy[i]++
		}
		for i := range vals {
			vals[i]++
		}
		clear(l)
		if !slices.Equal(m.W, was.W) {
			t.Fatal("the words that were handed in are changed")
		}
		wantLog(t, m, 1, n, pairs(eight, 5))
	}
}
