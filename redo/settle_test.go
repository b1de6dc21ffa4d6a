package redo_test

import (
	"fmt"
	"slices"
	"testing"

	"nacre/api"
	"nacre/trial"
)

// behind is a memory of eight pages, as the entries of the cells 0, 5 and 81 leave it that the change of the stamp 7 turns, of which the maker 0 has the closed note.
func behind(m trial.Memory) trial.Memory {
	m = m.Copied()
	m.Cell(0, 7, 10)
	m.Cell(5, 7, 15)
	m.Cell(81, 7, 91)
	m.Note(0, 7, 3)
	return m
}

// three are the entries of that change.
var three = []api.Pair{{Cell: 5, Val: 15}, {Cell: 81, Val: 91}, {Cell: 0, Val: 10}}

// P27.2, P27.3: an open change is made: the words and the values, written out.
func TestWrittenOut(t *testing.T) {
	w := make([]uint64, 344)
	w[8] = 0x0000000700000001
	w[16], w[21], w[22], w[97] = 0x0000000300000001, 0x0000000600000002, 0x0000000700000003, 0x0000000700000004
	w[240], w[248], w[249], w[250] = 0x0000000780000003, 0x0000000500000009, 0x000000510000000b, 0x000000000000000c
	vals := make([]uint32, 82)
	vals[0], vals[5], vals[6], vals[81] = 12, 9, 3, 4
	tidy := slices.Clone(w)
	tidy[16], tidy[21], tidy[240] = 0x000000070000000c, 0x0000000700000009, 0x0000000700000003
	wantSettled(t, "open", trial.Memory{Config: eight, W: w}, vals, tidy)
}

// P27.2, P27.3: as long as nothing is open the values are those of the cells as they stand, and the words stay, whatever else they are.
func TestNothingIsOpen(t *testing.T) {
	for _, c := range rights {
		for _, s := range stamps {
			m := trial.Blank(c, s, c.Threads)
			for i := range trial.Cells(c) {
				m.Cell(i, uint32(i)%(min(s, 1<<30)+1), uint32(3*i))
			}
			wantSettled(t, "junk", m, m.Vals(), m.W)
			m.Log(c.Threads, pairs(c, most)...)
			for _, low := range []uint32{0, 1, 3, 96} {
				m.Note(c.Threads, s, low)
				wantSettled(t, "closed", m, m.Vals(), m.W)
			}
		}
	}
}

// P27.2: each maker may be that of the tip, and none that there is not.
func TestMakers(t *testing.T) {
	for _, c := range rights {
		m := trial.Blank(c, 7, 0)
		for u := range c.Threads + 1 {
			m.Open(u, 7, api.Pair{Cell: u, Val: 99})
		}
		for u := range c.Threads + 1 {
			m.Tip(7, uint32(u))
			vals, tidy := m.Vals(), m.Copied()
			vals[u] = 99
			tidy.Cell(u, 7, 99)
			tidy.Note(u, 7, 1)
			wantSettled(t, fmt.Sprint("maker ", u), m, vals, tidy.W)
		}
		for _, u := range []uint32{uint32(c.Threads) + 1, uint32(c.Threads) + 2, 17, 18, 1 << 8, 1 << 16, 1 << 31, 1<<31 | 1, maxStamp} {
			m.Tip(7, u)
			wantUnsettled(t, fmt.Sprint("maker ", u), c, m.W)
		}
	}
}

// P27.2: no cell's stamp may be above that of the tip, whichever cell it is, whether the last change is open, and whether it turns that cell or not.
func TestStampsAbove(t *testing.T) {
	for _, c := range rights {
		for n, s := range stamps[:len(stamps)-1] {
			m := trial.Blank(c, s, 0)
			for at := n; at < trial.Cells(c); at += 1 + trial.Cells(c)/60 {
				for turn, above := range []uint32{s + 1, maxStamp} {
					m.Note(0, s, 0)
					if turn == 0 {
						m.Open(0, s, api.Pair{Cell: at}, api.Pair{Cell: 1})
					}
					m.Cell(at, above, 5)
					wantUnsettled(t, fmt.Sprintf("cell %d of %d", at, above), c, m.W)
					m.Cell(at, s, 5)
				}
			}
			m.Note(0, s, 0)
			wantSettled(t, "not above", m, m.Vals(), m.W)
			for _, at := range []int{0, 1, trial.Cells(c) - 1} {
				m.Cell(at, s+1, 5)
				wantUnsettled(t, "at an end", c, m.W)
				m.Cell(at, 0, 5)
			}
		}
	}
}

// P27.2: just cells have stamps: what else is in the words may be anything, beside the tip, and the note and the log of its maker.
func TestOtherWords(t *testing.T) {
	for _, other := range []uint64{0, trial.Junk, 7 << 32, 8 << 32, 7<<32 | 1<<31 | 1, 8<<32 | 1<<31 | 1, 5<<32 | 1} {
		m := trial.Blank(eight, 7, 0)
		m.Open(0, 7, three...)
		for w := range m.W {
			isLog := w >= 128 && w < 131
			if w != 8 && (w < 16 || w > 97) && w != 120 && !isLog {
				m.W[w] = other
			}
		}
		want := behind(m)
		wantSettled(t, fmt.Sprintf("%x", other), m, want.Vals(), want.W)
	}
}

// P27.2, P27.3: the last change is open just if the note of its maker is open, and has its stamp; else its log is not asked, nor the other maker's.
func TestOpen(t *testing.T) {
	m := trial.Blank(eight, 7, 0)
	m.Open(1, 7, api.Pair{Cell: 9, Val: 1})
	m.Open(0, 7, three...)
	want := behind(m)
	wantSettled(t, "open", m, want.Vals(), want.W)
	for _, note := range []uint64{
		7<<32 | 3, 6<<32 | 1<<31 | 3, 8<<32 | 1<<31 | 3, 0<<32 | 1<<31 | 3, maxStamp<<32 | 1<<31 | 3, 1<<63 | 7<<32 | 1<<31 | 3,
		7<<32 | 1<<31 | 97, 7<<32 | 1<<31 | 1<<30 | 3, 7<<32 | 1<<31 | 1<<16 | 3, 7<<32 | 1<<30 | 3, 7 << 32, 0, trial.Junk,
	} {
		m.W[120] = note
		wantSettled(t, fmt.Sprintf("the note %x", note), m, m.Vals(), m.W)
		broken := m.Copied()
		broken.W[128] = trial.Junk
		wantSettled(t, fmt.Sprintf("the note %x, no log", note), broken, m.Vals(), broken.W)
	}
}

// P27.2, P27.3: an open change of no cells turns none, but is closed.
func TestOpenOfNoCells(t *testing.T) {
	for _, c := range rights {
		for _, s := range stamps {
			m := trial.Blank(c, s, 0)
			m.Open(0, s)
			tidy := m.Copied()
			tidy.Note(0, s, 0)
			wantSettled(t, "of no cells", m, m.Vals(), tidy.W)
		}
	}
}

// P27.2, P27.3: if it is open, and one of its entries is none of a cell, the words settle to nothing; the word behind its entries may be anything.
func TestOpenWithoutLog(t *testing.T) {
	for _, word := range []uint64{trial.Junk, 82 << 32, 83<<32 | 7, 0xffff << 32, 1 << 48, 1<<48 | 5<<32, 1 << 63} {
		m := trial.Blank(eight, 7, 0)
		m.Open(0, 7, three...)
		for at := range 4 {
			broken := m.Copied()
			broken.W[128+at] = word
			if at < 3 {
				wantUnsettled(t, fmt.Sprintf("the entry %d is %x", at, word), eight, broken.W)
				continue
			}
			want := behind(broken)
			wantSettled(t, fmt.Sprintf("the entry %d is %x", at, word), broken, want.Vals(), want.W)
		}
	}
}

// P27.2, P27.3: cells are turned just if their stamp is below that of the tip: held against each other as they are, without a sign, and without going round.
func TestTurnedBelow(t *testing.T) {
	for _, c := range rights {
		for _, s := range stamps {
			for _, of := range stamps {
				if of > s {
					continue
				}
				at := trial.Cells(c) - 1
				m := trial.Blank(c, s, 0)
				m.Cell(at, of, 4)
				m.Open(0, s, api.Pair{Cell: at, Val: 8})
				vals, tidy := m.Vals(), m.Copied()
				tidy.Note(0, s, 1)
				if of < s {
					vals[at] = 8
					tidy.Cell(at, s, 8)
				}
				wantSettled(t, fmt.Sprintf("%d at %d", of, s), m, vals, tidy.W)
			}
		}
	}
}

// P27.2, P27.3: of several entries of one cell the first one turns it, and the others find it turned.
func TestEntriesOfOneCell(t *testing.T) {
	m := trial.Blank(eight, 7, 0)
	m.Open(0, 7, api.Pair{Cell: 5, Val: 15}, api.Pair{Cell: 0, Val: 10}, api.Pair{Cell: 5, Val: 16}, api.Pair{Cell: 81, Val: 91}, api.Pair{Cell: 5, Val: 5}, api.Pair{Cell: 0, Val: 11})
	want := behind(m)
	want.Note(0, 7, 6)
	wantSettled(t, "one cell", m, want.Vals(), want.W)
	m.Cell(5, 7, 17)
	want.Cell(5, 7, 17)
	wantSettled(t, "turned already", m, want.Vals(), want.W)
}

// P27.2, P27.3: a change of as many cells as there may be, by each maker; the note of it keeps its stamp and its Count.
func TestMostCells(t *testing.T) {
	for _, c := range rights {
		for u := range c.Threads + 1 {
			m := trial.Blank(c, 1<<31, u)
			l := pairs(c, min(most, trial.Cells(c)))
			m.Open(u, 1<<31, l...)
			tidy := m.Copied()
			for _, p := range l {
				tidy.Cell(p.Cell, 1<<31, p.Val)
			}
			tidy.Note(u, 1<<31, uint32(len(l)))
			wantSettled(t, "most cells", m, tidy.Vals(), tidy.W)
		}
	}
}

// P27.4: whichever of the entries' cells are turned already, the words settle to the same, and are tidied to the same; and tidied words settle to it, too, and stay as they are.
func TestWhicheverAreTurned(t *testing.T) {
	for _, c := range rights {
		for _, u := range []int{0, c.Threads} {
			m := trial.Blank(c, 3, u)
			l := append(pairs(c, 7), pairs(c, 3)...)
			m.Open(u, 3, l...)
			tidy := m.Copied()
			for _, p := range l {
				tidy.Cell(p.Cell, 3, p.Val)
			}
			tidy.Note(u, 3, 10)
			for turned := range 1 << 7 {
				part := m.Copied()
				for i, p := range l[:7] {
					if turned>>i&1 == 1 {
						part.Cell(p.Cell, 3, p.Val)
					}
				}
				wantSettled(t, fmt.Sprintf("turned %b", turned), part, tidy.Vals(), tidy.W)
			}
			wantSettled(t, "tidied", tidy, tidy.Vals(), tidy.W)
			// The note may still be open where all cells are turned.
			tidy.Note(u, 3, 1<<31|10)
			wantSettled(t, "all turned", tidy, tidy.Vals(), replaced(tidy, u))
		}
	}
}

// replaced is the words with the closed note of ten entries.
func replaced(m trial.Memory, u int) []uint64 {
	m = m.Copied()
	m.Note(u, 3, 10)
	return m.W
}
