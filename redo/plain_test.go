package redo_test

import (
	"slices"
	"testing"

	"nacre/api"
	"nacre/redo"
	"nacre/trial"
)

// plainLog is what the chapter says of Log, of words of c and a maker.
func plainLog(m trial.Memory, t int) (api.Note, []api.Pair, bool) {
	word := m.W[trial.NoteAt(m.Config, t)]
	low := uint32(word)
	n := api.Note{Stamp: uint32(word >> 32), Open: low>>31 == 1, Count: int(low & 0x7fffffff)}
	if n.Count > 96 {
		return api.Note{}, nil, false
	}
	var l []api.Pair
	for i := range n.Count {
		entry := m.W[trial.LogAt(m.Config, t)+i]
		if int(entry>>32) >= trial.Cells(m.Config) {
			return api.Note{}, nil, false
		}
		l = append(l, api.Pair{Cell: int(entry >> 32), Val: uint32(entry)})
	}
	return n, l, true
}

// plainTidy is what the chapter says of Settle and Tidy, of words of c: the values, and the words.
func plainTidy(m trial.Memory) ([]uint32, []uint64, bool) {
	m = m.Copied()
	s, u := uint32(m.W[8]>>32), uint32(m.W[8])
	if u > uint32(m.Threads) {
		return nil, nil, false
	}
	for i := range trial.Cells(m.Config) {
		if uint32(m.W[16+i]>>32) > s {
			return nil, nil, false
		}
	}
	at := trial.NoteAt(m.Config, int(u))
	if low := uint32(m.W[at]); uint32(m.W[at]>>32) != s || low < 1<<31 || low > 1<<31+96 {
		return m.Vals(), m.W, true
	}
	_, l, ok := plainLog(m, int(u))
	if !ok {
		return nil, nil, false
	}
	for _, p := range l {
		if uint32(m.W[16+p.Cell]>>32) < s {
			m.Cell(p.Cell, s, p.Val)
		}
	}
	m.W[at] -= 1 << 31
	return m.Vals(), m.W, true
}

// wantPlain asks whether all is told of the words that the chapter's lines tell.
func wantPlain(t *testing.T, m trial.Memory) {
	t.Helper()
	for u := range m.Threads + 1 {
		if n, l, ok := plainLog(m, u); ok {
			wantLog(t, m, u, n, l)
		} else {
			wantNoLog(t, m.Config, m.W, u)
		}
	}
	if vals, tidy, ok := plainTidy(m); ok {
		wantSettled(t, "by chance", m, vals, tidy)
		wantSettled(t, "tidied", trial.Memory{Config: m.Config, W: tidy}, vals, tidy)
	} else {
		wantUnsettled(t, "by chance", m.Config, m.W)
	}
}

// chanceEntry is the word of an entry, most often of one of a few cells, seldom of none.
func chanceEntry(by *trial.Chance, c api.Config) uint64 {
	cell := by.Next(9)
	switch by.Next(40) {
	case 0, 1, 2, 3, 4, 5, 6, 7:
		cell = trial.Cells(c) - 1 - by.Next(trial.Cells(c))
	case 8:
		return trial.Joined(uint32(by.Pick(trial.Cells(c), trial.Cells(c)+1, 1<<16-1, 1<<16, 1<<31)), by.Bits())
	}
	return trial.Joined(uint32(cell), by.Bits())
}

// chanceNote is the word of a note, most often an open one of the stamp s, seldom none.
func chanceNote(by *trial.Chance, s uint32) uint64 {
	s += uint32(by.Pick(0, 0, 0, 0, 0, -1, 1))
	low := uint32(by.Pick(by.Next(4), by.Next(30), by.Next(98)))
	if by.Next(4) > 0 {
		low |= 1 << 31
	}
	if by.Next(16) == 0 {
		low |= 1 << by.Next(32)
	}
	return trial.Joined(s, low)
}

// chanceMemory is words of which the tip tells most often a stamp that no cell's is above.
func chanceMemory(by *trial.Chance) trial.Memory {
	c := api.Config{Threads: 1 + by.Next(by.Pick(2, 16)), Pages: 4 + by.Next(by.Pick(5, 30)), Shift: 10 + by.Next(11)}
	s := stamps[by.Next(len(stamps))]
	m := trial.Blank(c, s, by.Next(c.Threads+1))
	for i := range trial.Cells(c) {
		m.Cell(i, s-min(s, uint32(by.Pick(0, 0, 1, 2, 1<<30))), by.Bits())
	}
	for u := range c.Threads + 1 {
		m.W[trial.NoteAt(c, u)] = chanceNote(by, s)
		for i := range most {
			m.W[trial.LogAt(c, u)+i] = chanceEntry(by, c)
		}
	}
	switch by.Next(16) {
	case 0:
		m.Cell(by.Next(trial.Cells(c)), s+uint32(1+by.Next(3)), by.Bits())
	case 1:
		m.Tip(s, uint32(by.Next(40)))
	case 2:
		m.W[by.Next(len(m.W))] = trial.Joined(by.Bits(), by.Bits())
	}
	return m
}

// P27.1 to P27.4: of words by chance all is told that the chapter's lines tell, and of what is tidied the same.
func TestAsTheLinesSay(t *testing.T) {
	for seed := range 4000 {
		by := trial.Chance(seed)
		wantPlain(t, chanceMemory(&by))
	}
}

// P27.1 to P27.3: of words that are any bits, too: nothing panics.
func TestAnyWords(t *testing.T) {
	for seed := range 600 {
		by := trial.Chance(seed)
		m := chanceMemory(&by)
		for i := range m.W {
			m.W[i] = trial.Joined(by.Bits(), by.Bits())
		}
		wantPlain(t, m)
		m.Tip(maxStamp, uint32(by.Next(m.Threads+1)))
		wantPlain(t, m)
	}
}

// P27.1: entries that are laid by chance over words by chance are what is logged; so, of the stamp and the maker of the tip, is what turns the cells.
func TestLaidByChance(t *testing.T) {
	for seed := range 2000 {
		by := trial.Chance(seed)
		m := chanceMemory(&by)
		u := by.Next(m.Threads + 1)
		l := make([]api.Pair, by.Next(by.Pick(5, 97)))
		for i := range l {
			l[i] = api.Pair{Cell: by.Next(trial.Cells(m.Config)), Val: by.Bits()}
		}
		s := uint32(m.W[8] >> 32)
		wantLaid(t, m, u, s, l)
		w, _ := redo.Lay(m.Config, m.W, u, s, l)
		wantPlain(t, trial.Memory{Config: m.Config, W: slices.Clone(w)})
	}
}
