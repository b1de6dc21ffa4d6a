package mark_test

import (
	"math"
	"testing"

	"nacre/api"
	"nacre/half"
	"nacre/mark"
)

// halves are both ends of a stamp and of a value, and what lies between.
var halves = []uint32{0, 1, 2, 3, 15, 16, 17, 95, 96, 97, 0xffff, 1 << 16, 1<<16 + 1, 0x7fffffff, 1 << 31, 1<<31 + 1, 1<<31 + 96, 0xaaaaaaaa, 0x55555555, 0xdeadbeef, math.MaxUint32 - 1, math.MaxUint32}

// beyond are ints that neither a maker nor a count nor a cell may be, also those of which the low bits could be one.
var beyond = []int{-1, -2, -16, -96, math.MinInt32, math.MinInt, -1 << 32, 1<<32 - 1, 1 << 32, 1<<32 + 1, 1<<32 + 16, 1<<32 + 96, 1 << 48, math.MinInt + 1, math.MaxInt32, math.MaxInt}

// P3.1: a cell's word is its stamp in the upper half, its value in the lower one.
func TestCellJoinsStampAndValue(t *testing.T) {
	for _, stamp := range halves {
		for _, val := range halves {
			w := mark.Cell(stamp, val)
			if want := half.Join(stamp, val); w != want {
				t.Fatalf("Cell(%x, %x) = %016x, want %016x", stamp, val, w, want)
			}
			if mark.Stamp(w) != stamp || mark.Val(w) != val {
				t.Fatalf("of %016x: stamp %x, value %x", w, mark.Stamp(w), mark.Val(w))
			}
		}
	}
	if w := mark.Cell(0x01234567, 0x89abcdef); w != 0x0123456789abcdef {
		t.Fatalf("%016x", w)
	}
}

// P3.1: a tip is its stamp in the upper half, its maker in the lower one, from 0 to MaxThreads.
func TestTipJoinsStampAndMaker(t *testing.T) {
	for _, stamp := range halves {
		for maker := 0; maker <= api.MaxThreads; maker++ {
			w, ok := mark.Tip(stamp, maker)
			if want := half.Join(stamp, uint32(maker)); !ok || w != want {
				t.Fatalf("Tip(%x, %d) = %016x, %v, want %016x", stamp, maker, w, ok, want)
			}
			s, m, ok := mark.OfTip(w)
			if !ok || s != stamp || m != maker {
				t.Fatalf("OfTip(%016x) = %x, %d, %v", w, s, m, ok)
			}
		}
	}
}

// P3.1: there is no tip of another maker, and zeros are answered beside the false.
func TestTipRefusesOtherMakers(t *testing.T) {
	for _, stamp := range halves {
		for _, maker := range append(beyond, api.MaxThreads+1, api.MaxWrites, api.MaxWords) {
			if w, ok := mark.Tip(stamp, maker); ok || w != 0 {
				t.Fatalf("Tip(%x, %d) = %016x, %v", stamp, maker, w, ok)
			}
		}
	}
}

// P3.1: a word is a tip just if its lower half is a maker.
func TestOfTipAsksTheMaker(t *testing.T) {
	for _, stamp := range halves {
		for _, low := range halves {
			s, m, ok := mark.OfTip(half.Join(stamp, low))
			if low <= 16 {
				if !ok || s != stamp || m != int(low) {
					t.Fatalf("OfTip(%x %x) = %x, %d, %v", stamp, low, s, m, ok)
				}
			} else if ok || s != 0 || m != 0 {
				t.Fatalf("OfTip(%x %x) = %x, %d, %v", stamp, low, s, m, ok)
			}
		}
	}
}

// lowOf is the lower half of a note, as the chapter tells its bits.
func lowOf(open bool, count int) uint32 {
	if open {
		return 0x80000000 + uint32(count)
	}
	return uint32(count)
}

// P3.2: a note is its stamp, bit 31 if it is open, and its count from bit 0 on.
func TestNoteJoinsStampOpenAndCount(t *testing.T) {
	for _, stamp := range halves {
		for count := 0; count <= api.MaxWrites; count++ {
			for _, open := range []bool{false, true} {
				n := api.Note{Stamp: stamp, Open: open, Count: count}
				w, ok := mark.Note(n)
				if want := half.Join(stamp, lowOf(open, count)); !ok || w != want {
					t.Fatalf("Note(%v) = %016x, %v, want %016x", n, w, ok, want)
				}
				if back, ok := mark.OfNote(w); !ok || back != n {
					t.Fatalf("OfNote(%016x) = %v, %v, want %v", w, back, ok, n)
				}
			}
		}
	}
}

// P3.2: there is no note of another count, and zeros are answered beside the false.
func TestNoteRefusesOtherCounts(t *testing.T) {
	for _, count := range append(beyond, api.MaxWrites+1, 128, 0xffff, 1<<16, 1<<16+1, 1<<31, 1<<31+4) {
		for _, open := range []bool{false, true} {
			if w, ok := mark.Note(api.Note{Stamp: 2, Open: open, Count: count}); ok || w != 0 {
				t.Fatalf("Note of %d cells = %016x, %v", count, w, ok)
			}
		}
	}
}

// P3.2: a word is a note just if its count may be, and no bit from 16 to 30 is 1.
func TestOfNoteAsksCountAndOtherBits(t *testing.T) {
	for low := uint32(97); low <= 0xffff; low++ {
		wantNoNote(t, half.Join(2, low))
		wantNoNote(t, half.Join(2, 1<<31|low))
	}
	for bit := 16; bit <= 30; bit++ {
		for _, count := range []uint32{0, 4, 96} {
			wantNoNote(t, half.Join(2, 1<<bit|count))
			wantNoNote(t, half.Join(2, 1<<31|1<<bit|count))
		}
	}
	for _, stamp := range halves {
		wantNoNote(t, half.Join(stamp, math.MaxUint32))
		wantNoNote(t, half.Join(stamp, math.MaxInt32))
	}
}

func wantNoNote(t *testing.T, w uint64) {
	t.Helper()
	if n, ok := mark.OfNote(w); ok || n != (api.Note{}) {
		t.Fatalf("OfNote(%016x) = %v, %v", w, n, ok)
	}
	if n, ok := mark.Open(w, half.Hi(w)); ok || n != 0 {
		t.Fatalf("Open(%016x) = %v, %v", w, n, ok)
	}
}

// P3.2: Open is the count of a note that is open and has that stamp, and of no other word.
func TestOpenAsksNoteFlagAndStamp(t *testing.T) {
	for _, of := range halves {
		for _, stamp := range halves {
			for _, count := range []int{0, 1, 4, 95, 96} {
				n, ok := mark.Open(half.Join(of, lowOf(true, count)), stamp)
				if of == stamp && (!ok || n != count) {
					t.Fatalf("open note of %x, %d cells: Open %d, %v", of, count, n, ok)
				}
				if of != stamp && (ok || n != 0) {
					t.Fatalf("open note of %x asked for %x: Open %d, %v", of, stamp, n, ok)
				}
				if n, ok := mark.Open(half.Join(of, lowOf(false, count)), stamp); ok || n != 0 {
					t.Fatalf("closed note of %x: Open %d, %v", of, n, ok)
				}
			}
		}
	}
}

// P3.3: an entry is its cell in the upper half, from 0 on, below MaxWords, its value in the lower one.
func TestEntryJoinsCellAndValue(t *testing.T) {
	for cell := 0; cell < api.MaxWords; cell++ {
		p := api.Pair{Cell: cell, Val: halves[cell%len(halves)]}
		w, ok := mark.Entry(p)
		if want := half.Join(uint32(cell), p.Val); !ok || w != want {
			t.Fatalf("Entry(%v) = %016x, %v, want %016x", p, w, ok, want)
		}
		if back, ok := mark.OfEntry(w); !ok || back != p {
			t.Fatalf("OfEntry(%016x) = %v, %v, want %v", w, back, ok, p)
		}
	}
}

// P3.3: there is no entry of another cell, and zeros are answered beside the false.
func TestEntryRefusesOtherCells(t *testing.T) {
	for _, cell := range append(beyond, api.MaxWords, api.MaxWords+1, 2*api.MaxWords) {
		for _, val := range halves {
			if w, ok := mark.Entry(api.Pair{Cell: cell, Val: val}); ok || w != 0 {
				t.Fatalf("Entry of %d, %x = %016x, %v", cell, val, w, ok)
			}
		}
	}
	for _, cell := range []uint32{1 << 16, 1<<16 + 1, 1 << 17, 1 << 31, math.MaxUint32} {
		for _, val := range halves {
			if p, ok := mark.OfEntry(half.Join(cell, val)); ok || p != (api.Pair{}) {
				t.Fatalf("OfEntry(%x %x) = %v, %v", cell, val, p, ok)
			}
		}
	}
}

// P3.4: a word of which a thing is got is the one into which that thing is put, so no two unlike things have one word.
func TestWordsAndThingsAreOneToOne(t *testing.T) {
	for _, hi := range halves {
		for _, lo := range halves {
			w := half.Join(hi, lo)
			if back := mark.Cell(mark.Stamp(w), mark.Val(w)); back != w {
				t.Fatalf("cell %016x comes back as %016x", w, back)
			}
			if stamp, maker, ok := mark.OfTip(w); ok {
				if back, ok := mark.Tip(stamp, maker); !ok || back != w {
					t.Fatalf("tip %016x comes back as %016x, %v", w, back, ok)
				}
			}
			if n, ok := mark.OfNote(w); ok {
				if back, ok := mark.Note(n); !ok || back != w {
					t.Fatalf("note %016x comes back as %016x, %v", w, back, ok)
				}
			}
			if p, ok := mark.OfEntry(w); ok {
				if back, ok := mark.Entry(p); !ok || back != w {
					t.Fatalf("entry %016x comes back as %016x, %v", w, back, ok)
				}
			}
		}
	}
}

// P3.4: unlike notes have unlike words.
func TestUnlikeNotesHaveUnlikeWords(t *testing.T) {
	seen := map[uint64]api.Note{}
	for _, stamp := range halves {
		for count := 0; count <= api.MaxWrites; count++ {
			for _, open := range []bool{false, true} {
				n := api.Note{Stamp: stamp, Open: open, Count: count}
				w, _ := mark.Note(n)
				if other, ok := seen[w]; ok {
					t.Fatalf("%v and %v are both %016x", n, other, w)
				}
				seen[w] = n
			}
		}
	}
}

// P3.1, P3.2: the chapter's examples.
func TestExamples(t *testing.T) {
	if w, ok := mark.Note(api.Note{Stamp: 2, Open: true, Count: 4}); !ok || w != 0x0000000280000004 {
		t.Fatalf("%016x, %v", w, ok)
	}
	if stamp, maker, ok := mark.OfTip(1<<32 | 17); ok || stamp != 0 || maker != 0 {
		t.Fatal(stamp, maker, ok)
	}
}
