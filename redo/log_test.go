package redo_test

import (
	"fmt"
	"math"
	"slices"
	"testing"

	"nacre/api"
	"nacre/redo"
	"nacre/trial"
)

// stamps are both ends of a stamp, and what lies between.
var stamps = []uint32{0, 1, 2, 96, 97, 1 << 16, math.MaxInt32, 1 << 31, 1<<31 + 1, maxStamp - 1, maxStamp}

// P27.1: Log tells the note of each maker, open or not, of each number of entries, and just so many of them: what stands behind them is not asked.
func TestLog(t *testing.T) {
	for _, c := range rights {
		m := trial.Blank(c, 1, 0)
		for u := range c.Threads + 1 {
			for n := 0; n <= most; n++ {
				s, open := stamps[n%len(stamps)], n%3 != 0
				m.Open(u, s, pairs(c, n)...)
				if !open {
					m.Note(u, s, uint32(n))
				}
				wantLog(t, m, u, api.Note{Stamp: s, Open: open, Count: n}, pairs(c, n))
			}
		}
	}
}

// P27.1: a log has the order that it stands in, and each entry as often as it stands there, whatever the tip and the cells are.
func TestLogAsItStands(t *testing.T) {
	m := trial.Memory{Config: eight, W: slices.Repeat([]uint64{trial.Junk}, 344)}
	m.W[120], m.W[128], m.W[129], m.W[130], m.W[131] = 0x0000000900000004, 5<<32|7, 81<<32, 5<<32|7, 5<<32|6
	wantLog(t, m, 0, api.Note{Stamp: 9, Count: 4}, []api.Pair{{Cell: 5, Val: 7}, {Cell: 81}, {Cell: 5, Val: 7}, {Cell: 5, Val: 6}})
	wantNoLog(t, eight, m.W, 1)
	m.W[240], m.W[248] = 0x8000000080000001, 0x00000000ffffffff
	wantLog(t, m, 1, api.Note{Stamp: 1 << 31, Open: true, Count: 1}, []api.Pair{{Cell: 0, Val: maxStamp}})
}

// P27.1: nothing is told, if the word of the note is none, whatever entries stand in the log.
func TestNoNote(t *testing.T) {
	for _, c := range rights {
		m := trial.Blank(c, 1, 0)
		for u := range c.Threads + 1 {
			m.Log(u, pairs(c, most)...)
			lows := []uint32{97, 98, 127, 128, 1 << 15, 1<<16 - 1, maxStamp}
			for bit := 16; bit <= 30; bit++ {
				lows = append(lows, 1<<bit, 1<<bit|2)
			}
			for i, low := range lows {
				m.Note(u, stamps[i%len(stamps)], low)
				wantNoLog(t, c, m.W, u)
				m.Note(u, 1, 1<<31|low)
				wantNoLog(t, c, m.W, u)
			}
		}
	}
}

// P27.1: nothing is told, if one of as many words as the note tells is no entry of a cell, wherever it stands; behind these it may be.
func TestNoEntry(t *testing.T) {
	for _, c := range rights {
		m := trial.Blank(c, 1, 0)
		n := uint32(trial.Cells(c))
		for _, u := range []int{0, c.Threads} {
			for _, count := range []int{1, 2, 17, most} {
				for at := range most {
					m.Open(u, 3, pairs(c, count)...)
					word := &m.W[trial.LogAt(c, u)+at]
					for i, cell := range []uint32{n, n + 1, n + 8, 6238, math.MaxUint16, 1 << 16, 1<<16 + 1, 1 << 31, maxStamp} {
						*word = trial.Joined(cell, stamps[i])
						if at < count {
							wantNoLog(t, c, m.W, u)
						} else {
							wantLog(t, m, u, api.Note{Stamp: 3, Open: true, Count: count}, pairs(c, count))
						}
					}
				}
			}
		}
	}
}

// wantLaid asks whether Lay tells the words, but for the note and the first entries of that maker.
func wantLaid(t *testing.T, m trial.Memory, u int, s uint32, l []api.Pair) {
	t.Helper()
	was, wasPairs := m.Copied(), slices.Clone(l)
	got, ok := redo.Lay(m.Config, m.W, u, s, l)
	if !slices.Equal(m.W, was.W) || !slices.Equal(l, wasPairs) {
		t.Fatalf("what is handed in to lay %d entries of %d of %v is changed", len(l), u, m.Config)
	}
	was.Open(u, s, l...)
	if !ok || !slices.Equal(got, was.W) {
		t.Fatalf("with %d entries of %d of %v laid the words are %x, %t, not %x", len(l), u, m.Config, got, ok, was.W)
	}
	wantLog(t, trial.Memory{Config: m.Config, W: got}, u, api.Note{Stamp: s, Open: true, Count: len(l)}, l)
}

// P27.1: Lay tells the words with an open note and its entries, of each maker and of each number of entries, from none to 96; all else is as it was, also in the log behind them.
func TestLay(t *testing.T) {
	for _, c := range rights {
		m := trial.Blank(c, 1, 0)
		for u := range c.Threads + 1 {
			for n := 0; n <= most; n++ {
				wantLaid(t, m, u, stamps[n%len(stamps)], pairs(c, n))
			}
			m.Open(u, 5, pairs(c, most)...)
		}
		// Each maker has something in its log now.
		for u := range c.Threads + 1 {
			wantLaid(t, m, u, 6, pairs(c, 3))
			wantLaid(t, m, u, 6, nil)
		}
	}
}

// P27.1: where the words stand, written out.
func TestLayWrittenOut(t *testing.T) {
	w := make([]uint64, 344)
	w[0], w[8], w[130], w[248] = trial.Junk, trial.Junk, trial.Junk, trial.Junk
	want := slices.Clone(w)
	want[120], want[128], want[129] = 0x0000000280000002, 0x0000000500000007, 0x0000005100000000
	got, ok := redo.Lay(eight, w, 0, 2, []api.Pair{{Cell: 5, Val: 7}, {Cell: 81}})
	if !ok || !slices.Equal(got, want) {
		t.Fatalf("%x, %t", got, ok)
	}
	want = slices.Clone(w)
	want[240], want[248], want[249], want[250] = 0xffffffff80000003, 0xffffffff, 0, 1
	got, ok = redo.Lay(eight, w, 1, maxStamp, []api.Pair{{Val: maxStamp}, {}, {Val: 1}})
	if !ok || !slices.Equal(got, want) {
		t.Fatalf("%x, %t", got, ok)
	}
}

// P27.1: more entries than a log has room for are not laid.
func TestTooManyEntries(t *testing.T) {
	for _, c := range rights {
		m := trial.Blank(c, 1, 0)
		for u := range c.Threads + 1 {
			for _, n := range []int{97, 98, 104, 120, 128, 216, 1 << 16, 1<<16 + 1} {
				wantNotLaid(t, c, m.W, u, pairs(c, n))
			}
		}
	}
}

// P27.1: entries are not laid, if one of them, wherever it stands, is of a cell that there is not.
func TestEntriesOfNoCell(t *testing.T) {
	for _, c := range rights {
		m := trial.Blank(c, 1, 0)
		n := trial.Cells(c)
		for _, cell := range []int{-1, -2, -16, -n, math.MinInt, math.MinInt32, -1 << 32, n, n + 1, n + 8, 6238, math.MaxUint16, 1 << 16, 1<<16 + 1, 1 << 31, 1 << 32, 1<<32 + 1, 1 << 48, math.MaxInt} {
			for _, count := range []int{1, 2, most} {
				for at := range count {
					l := pairs(c, count)
					l[at].Cell = cell
					wantNotLaid(t, c, m.W, at%(c.Threads+1), l)
				}
			}
		}
	}
}

// P27.1: of each configuration the last cell's entry is one, and the one of the cell behind it none.
func TestLastCell(t *testing.T) {
	for threads := 1; threads <= 16; threads++ {
		for _, pages := range []int{4, 5, 6, 7, 8, 9, 63, 64, 1023, 1024} {
			c := api.Config{Threads: threads, Pages: pages, Shift: 10 + threads%11}
			m := trial.Blank(c, 1, 0)
			last := api.Pair{Cell: trial.Cells(c) - 1, Val: 2}
			wantLaid(t, m, threads, 1, []api.Pair{last, {}, last})
			m.Open(0, 1, last)
			vals := m.Vals()
			vals[last.Cell] = 2
			tidy := m.Copied()
			tidy.Cell(last.Cell, 1, 2)
			tidy.Note(0, 1, 1)
			wantSettled(t, fmt.Sprint("last cell of ", c), m, vals, tidy.W)
			last.Cell++
			m.Open(0, 1, last)
			wantNoLog(t, c, m.W, 0)
			wantNotLaid(t, c, m.W, 0, []api.Pair{last})
			wantUnsettled(t, "no cell", c, m.W)
		}
	}
}
