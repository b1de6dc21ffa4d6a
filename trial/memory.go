package trial

import (
	"math"
	"slices"

	"nacre/api"
)

// Cells is how many cells there are, and the four below it tell where a call, the note and the log of the maker t begin, and how many words there are, as chapter 7 has them.
func Cells(c api.Config) int            { return 30 + 4*c.Threads + 6*c.Pages }
func CallAt(c api.Config, t, b int) int { return (16+Cells(c)+7)/8*8 + 120*t + 8*b }
func NoteAt(c api.Config, t int) int    { return CallAt(c, t, 2) }
func LogAt(c api.Config, t int) int     { return CallAt(c, t, 3) }
func Size(c api.Config) int             { return CallAt(c, c.Threads+1, 0) }

// Junk is a word that is no tip, no number of a call, no note and no entry.
const Junk = math.MaxUint64

// Joined is the word of two halves.
func Joined(hi, lo uint32) uint64 { return uint64(hi)<<32 | uint64(lo) }

// Memory is words of a configuration, as a test lays them.
type Memory struct {
	api.Config
	W []uint64
}

// Blank is a memory whose cells have the stamp 0, and each its number as its value; all other words are junk, but for the tip.
func Blank(c api.Config, s uint32, u int) Memory {
	m := Memory{c, slices.Repeat([]uint64{Junk}, Size(c))}
	for i := range Cells(c) {
		m.Cell(i, 0, uint32(i))
	}
	m.Tip(s, uint32(u))
	return m
}

func (m Memory) Tip(s, u uint32) { m.W[8] = Joined(s, u) }

func (m Memory) Cell(i int, s, val uint32) { m.W[16+i] = Joined(s, val) }

// Call lays words of a call, from the first one on.
func (m Memory) Call(t, b int, words ...uint64) { copy(m.W[CallAt(m.Config, t, b):], words) }

func (m Memory) Note(t int, s, low uint32) { m.W[NoteAt(m.Config, t)] = Joined(s, low) }

// Log lays entries as words, from the first one on.
func (m Memory) Log(t int, l ...api.Pair) {
	for i, p := range l {
		m.W[LogAt(m.Config, t)+i] = Joined(uint32(p.Cell), p.Val)
	}
}

// Open lays an open note, and its entries.
func (m Memory) Open(t int, s uint32, l ...api.Pair) {
	m.Note(t, s, 1<<31|uint32(len(l)))
	m.Log(t, l...)
}

func (m Memory) Copied() Memory { return Memory{m.Config, slices.Clone(m.W)} }

// Vals are the values that the cells have as they stand.
func (m Memory) Vals() []uint32 {
	var l []uint32
	for _, w := range m.W[16 : 16+Cells(m.Config)] {
		l = append(l, uint32(w))
	}
	return l
}
