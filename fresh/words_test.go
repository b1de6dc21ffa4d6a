package fresh_test

import (
	"testing"

	"nacre/api"
	"nacre/fresh"
	"nacre/head"
	"nacre/mark"
	"nacre/nvm"
	"nacre/place"
)

// wordsOf is the words that the chapter tells: of each word what it is, as chapter 7 says.
func wordsOf(c api.Config) []uint64 {
	words := make([]uint64, place.Words(c))
	first, vals := head.Encode(c), valsOf(c)
	for w := range words {
		switch what := place.At(c, w); what.Kind {
		case api.WhHead:
			words[w] = first[what.A]
		case api.WhTip:
			words[w] = 1 << 32
		case api.WhCell:
			words[w] = uint64(vals[what.A])
		}
	}
	return words
}

// P25.2: each word, by what it is: those of the head, the tip, the cells, and 0 of the makers and of nothing.
func TestWords(t *testing.T) {
	for _, c := range rights {
		wantWords(t, c, wordsOf(c))
	}
}

// P25.2: what is got of the words: the configuration of their head, the tip's stamp and maker, the cells' stamps and values, and of each maker notes that are not open.
func TestWordsAreRead(t *testing.T) {
	for _, c := range rights {
		words := fresh.Words(c)
		if got, err := head.Decode(words); got != c || err != 0 {
			t.Fatalf("the head of Words(%v) is that of %v, %d", c, got, err)
		}
		if stamp, maker, ok := mark.OfTip(words[place.Tip]); stamp != 1 || maker != 0 || !ok {
			t.Fatalf("the tip of Words(%v) is %d, %d, %t", c, stamp, maker, ok)
		}
		for cell, val := range fresh.Vals(c) {
			w := words[place.Word(c, cell)]
			if mark.Stamp(w) != 0 || mark.Val(w) != val {
				t.Fatalf("the cell %d of Words(%v) is %x, not %d", cell, c, w, val)
			}
		}
		for u := range c.Threads + 1 {
			if n, ok := mark.OfNote(words[place.Note(c, u)]); n != (api.Note{}) || !ok {
				t.Fatalf("the note of the maker %d of Words(%v) is %v, %t", u, c, n, ok)
			}
		}
	}
}

// P25.2: they are words that a memory may have.
func TestWordsAreAMemory(t *testing.T) {
	for _, c := range rights {
		words := fresh.Words(c)
		m := nvm.New(words)
		if m == nil || len(m.Words()) != len(words) {
			t.Fatalf("Words(%v) are no memory", c)
		}
		wantWords(t, c, m.Kept())
	}
}
