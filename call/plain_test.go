package call_test

import (
	"slices"
	"testing"

	"nacre/api"
	"nacre/call"
	"nacre/redo"
	"nacre/trial"
)

// plainNum is the number of a call, as the chapter says it.
func plainNum(m trial.Memory, u, b int) int {
	word := m.W[trial.CallAt(m.Config, u, b)]
	if word < 1 || word > maxNum {
		return 0
	}
	return int(word)
}

// plainRight tells whether words are a right operation, as chapter 22 says it.
func plainRight(w []uint64) bool {
	switch w[0] {
	case 3, 4, 5:
		return true
	case 1, 2, 6, 7, 9:
		return w[2] == 0
	}
	return w[0] == 8 && w[1] == 0 && w[2] == 0
}

// plainSaid is what the chapter says of Said.
func plainSaid(m trial.Memory, u, num int) (api.Op, bool) {
	for _, b := range []int{1, 0} {
		if at := trial.CallAt(m.Config, u, b); num >= 1 && plainNum(m, u, b) == num {
			if w := m.W[at+1 : at+4]; plainRight(w) {
				return api.Op{Kind: int(w[0]), A: int64(w[1]), B: int64(w[2])}, true
			}
			return api.Op{}, false
		}
	}
	return api.Op{}, false
}

// plainResolve is what the chapter says of Resolve.
func plainResolve(m trial.Memory, u, num int) api.Answer {
	if num == 0 || num != max(plainNum(m, u, 0), plainNum(m, u, 1)) {
		return unknown
	}
	vals, ok := redo.Settle(m.Config, m.W)
	if !ok {
		return unknown
	}
	o, _ := plainSaid(m, u, num)
	if v := vals[doneAt(u, 0):doneAt(u, 4)]; int(v[0]) == num {
		return did(o, api.Result{Err: api.Errno(v[1]), Out: int64(v[2]), Aux: int64(v[3])})
	}
	return not(o)
}

// wantPlain asks whether of the thread u all is told, and laid, as the chapter says, of an operation and some numbers.
func wantPlain(t *testing.T, m trial.Memory, u int, o api.Op, nums ...int) {
	t.Helper()
	first, second := plainNum(m, u, 0), plainNum(m, u, 1)
	last, b := max(first, second), 1
	if first > second {
		b = 0
	}
	wantLast(t, m, u, last, b)
	known := 0
	for _, num := range append(nums, first, second, last+1) {
		if said, ok := plainSaid(m, u, num); ok {
			wantSaid(t, m, u, num, said)
		} else {
			wantNotSaid(t, m.Config, m.W, u, num)
		}
		a := plainResolve(m, u, num)
		wantAnswer(t, "by chance", m, u, num, a)
		if a != unknown && num != last {
			known++
		}
		if num > last && num <= maxNum && plainRight(wordsOf(0, o)[1:]) {
			laid := wantLaid(t, m, u, num, 1-b, o)
			wantLast(t, laid, u, num, 1-b)
		} else {
			wantNotLaid(t, m.Config, m.W, u, num, o)
		}
	}
	if known > 0 {
		t.Fatalf("%d others than the last number of %d of %v are known", known, u, m.Config)
	}
}

// chanceNum is a word that is most often a small number, else a great one, or none.
func chanceNum(by *trial.Chance) uint64 {
	switch by.Next(8) {
	case 0:
		return words[by.Next(len(words))]
	case 1:
		return trial.Joined(by.Bits(), by.Bits())
	}
	return uint64(by.Next(12))
}

// chanceOp is most often an operation that is right.
func chanceOp(by *trial.Chance, c api.Config) api.Op {
	if by.Next(6) == 0 {
		return wrongOps[by.Next(len(wrongOps))]
	}
	return by.Op(c, nil, api.Pockets{})
}

// chanceMemory is words of which the tip tells most often a stamp that no cell's is above, and with calls of small numbers, which some of the cells and the entries have, too.
func chanceMemory(by *trial.Chance) trial.Memory {
	c := api.Config{Threads: 1 + by.Next(by.Pick(3, 16)), Pages: 4 + by.Next(5), Shift: 10 + by.Next(11)}
	s := uint32(2 + by.Next(9))
	m := trial.Blank(c, s, by.Next(c.Threads+1))
	var l []api.Pair
	for u := range c.Threads {
		for b := range 2 {
			m.Call(u, b, wordsOf(chanceNum(by), chanceOp(by, c))...)
		}
		for f := range 4 {
			m.Cell(doneAt(u, f), uint32(by.Next(int(s)+1)), uint32(by.Next(12)))
			l = append(l, api.Pair{Cell: doneAt(u, f), Val: uint32(by.Next(12))})
		}
	}
	for u := range c.Threads + 1 {
		m.Open(u, s-uint32(by.Pick(0, 0, 0, 1)), l[:by.Next(len(l)+1)]...)
	}
	switch by.Next(12) {
	case 0:
		m.Cell(by.Next(trial.Cells(c)), s+1, by.Bits())
	case 1:
		m.Tip(s, uint32(by.Next(40)))
	case 2:
		m.W[by.Next(len(m.W))] = trial.Joined(by.Bits(), by.Bits())
	}
	return m
}

// P28.1 to P28.4: of words by chance all is told, and laid, as the chapter says.
func TestAsTheChapterSays(t *testing.T) {
	for seed := range 3000 {
		by := trial.Chance(seed)
		m := chanceMemory(&by)
		for u := range m.Threads {
			wantPlain(t, m, u, chanceOp(&by, m.Config), by.Next(12), by.Next(12), int(chanceNum(&by)), -by.Next(12))
		}
	}
}

// P28.1 to P28.4: of words that are any bits, too: nothing panics.
func TestAnyWords(t *testing.T) {
	for seed := range 300 {
		by := trial.Chance(seed)
		m := chanceMemory(&by)
		for i := range m.W {
			m.W[i] = trial.Joined(by.Bits(), by.Bits())
		}
		for u := range m.Threads {
			wantPlain(t, m, u, chanceOp(&by, m.Config), by.Next(12), int(by.Bits()))
		}
	}
}

// P28.2, P28.4: rows of operations that are laid by chance, of all threads: each one's calls are the last two that it laid.
func TestRowsLaid(t *testing.T) {
	type said struct {
		num int
		o   api.Op
	}
	for seed := range 100 {
		by := trial.Chance(seed)
		m := chanceMemory(&by)
		rows := make([][]said, m.Threads)
		for range 40 {
			u, o := by.Next(m.Threads), by.Op(m.Config, nil, api.Pockets{})
			last, b, _ := call.Last(m.Config, m.W, u)
			num := last + 1 + by.Next(by.Pick(1, 5, 1000))
			if num > maxNum {
				wantNotLaid(t, m.Config, m.W, u, num, o)
				continue
			}
			m = wantLaid(t, m, u, num, 1-b, o)
			rows[u] = append(rows[u], said{num, o})
			for v, row := range rows {
				for _, x := range slices.Clone(row[max(len(row)-2, 0):]) {
					wantSaid(t, m, v, x.num, x.o)
				}
			}
		}
	}
}
