package call_test

import (
	"fmt"
	"math"
	"slices"
	"testing"

	"nacre/api"
	"nacre/call"
	"nacre/trial"
)

// settled is a memory of junk that settles to its cells as they stand, in which the thread u has announced 5, and then 7.
func settled(c api.Config, u int) trial.Memory {
	m := trial.Blank(c, 9, c.Threads)
	m.Note(c.Threads, 9, 0)
	m.Call(u, 0, wordsOf(5, trial.Stats())...)
	m.Call(u, 1, wordsOf(7, trial.Alloc(9))...)
	return m
}

// doneAt is the cell f of the thread u, as chapter 7 has it.
func doneAt(u, f int) int { return 30 + 4*u + f }

// doneAs lays what the thread u did last, by a change of the stamp s.
func doneAs(m trial.Memory, s uint32, u int, vals ...uint32) {
	for f, val := range vals {
		m.Cell(doneAt(u, f), s, val)
	}
}

// edges are values at both ends, and others between.
var edges = []uint32{0, 1, 3, 12, 1024, 1 << 16, math.MaxInt32, 1 << 31, 1<<31 + 7, math.MaxUint32}

// P28.3: done, with what it answered, just if the number that the cells have is that of the last call; and whatever values the result has.
func TestDone(t *testing.T) {
	for _, c := range rights {
		for u := range c.Threads {
			m := settled(c, u)
			for i, e := range edges {
				out, aux := edges[(i+3)%len(edges)], edges[(i+7)%len(edges)]
				for _, s := range []uint32{0, 1, 9} {
					doneAs(m, s, u, 7, e, out, aux)
					wantAnswer(t, "done", m, u, 7, did(trial.Alloc(9), api.Result{Err: api.Errno(e), Out: int64(out), Aux: int64(aux)}))
					for _, num := range []uint32{0, 1, 5, 6, 8, 7 << 8, 1<<16 + 7, 1<<31 + 7, 1<<24 | 7, math.MaxUint32} {
						doneAs(m, s, u, num, e, out, aux)
						wantAnswer(t, "not done", m, u, 7, not(trial.Alloc(9)))
					}
				}
			}
		}
	}
}

// P28.3: each number that there may be is found done, and not another one.
func TestDoneOfEachNumber(t *testing.T) {
	for _, c := range rights {
		for i, num := range numbers {
			u, b := i%c.Threads, i%2
			m := settled(c, u)
			m.Call(u, b, wordsOf(num, trial.Stats())...)
			m.Call(u, 1-b, wordsOf(0, trial.Stats())...)
			doneAs(m, 3, u, uint32(num), 0, 12, 13)
			wantAnswer(t, "done", m, u, int(num), did(trial.Stats(), trial.Done(12, 13)))
			for _, other := range []uint32{uint32(num) - 1, uint32(num) + 1, uint32(num) | 1<<31, 0} {
				doneAs(m, 3, u, other, 0, 12, 13)
				wantAnswer(t, "not done", m, u, int(num), not(trial.Stats()))
			}
		}
	}
}

// P28.3: what each of four threads announced, and what became of it, written out.
func TestResolveWrittenOut(t *testing.T) {
	c := api.Config{Threads: 4, Pages: 4, Shift: 10}
	w := make([]uint64, 688)
	w[8] = 0x0000000500000002
	// The calls begin at the words 88, 208, 328 and 448, and at those 8 words further on; what they did last is the words 46 to 61.
	w[88], w[89], w[96], w[97], w[98] = 2, 8, 3, 1, 100
	w[208], w[209], w[210], w[216], w[217] = 9, 6, 7, 8, 8
	w[328], w[329], w[330] = 0x7fffffff, 2, 0xffffffffffffffff
	w[46], w[48], w[49] = 0x0000000500000003, 0x0000000500000400, 0x0000000500000080
	w[50], w[52] = 0x0000000400000008, 0x000000040000000a
	w[54], w[55] = 0x000000027fffffff, 0x0000000200000004
	m := trial.Memory{Config: c, W: w}
	wantAnswer(t, "0", m, 0, 3, did(trial.Alloc(100), trial.Done(1024, 128)))
	wantAnswer(t, "0", m, 0, 2, unknown)
	wantAnswer(t, "1", m, 1, 9, not(trial.GetRoot(7)))
	wantAnswer(t, "1", m, 1, 8, unknown)
	wantAnswer(t, "2", m, 2, 0x7fffffff, did(trial.Release(-1), trial.Failed(api.ErrAddr)))
	wantAnswer(t, "3", m, 3, 0, unknown)
	// The change of the stamp 6, by the thread 1, has four entries, from the word 232 on: it did 9.
	w[8], w[224] = 0x0000000600000001, 0x0000000680000004
	w[232], w[233], w[234], w[235] = 0x0000002200000009, 0x0000002300000000, 0x0000002400000800, 0x0000002500000001
	wantAnswer(t, "1", m, 1, 9, did(trial.GetRoot(7), trial.Done(2048, 1)))
	wantAnswer(t, "0", m, 0, 3, did(trial.Alloc(100), trial.Done(1024, 128)))
}

// P28.3: what another thread did, or announced, says nothing of it.
func TestOtherThreads(t *testing.T) {
	for _, c := range rights {
		for u := range c.Threads {
			m := settled(c, u)
			for v := range c.Threads {
				if v != u {
					m.Call(v, 0, wordsOf(7, trial.Stats())...)
					m.Call(v, 1, wordsOf(8, trial.Stats())...)
				}
				doneAs(m, 1, v, 7, 0, 1, 2)
			}
			doneAs(m, 1, u, 5, 0, 1, 2)
			wantAnswer(t, "not done", m, u, 7, not(trial.Alloc(9)))
			for v := range c.Threads {
				doneAs(m, 1, v, 8, 0, 1, 2)
			}
			doneAs(m, 1, u, 7, 0, 3, 4)
			wantAnswer(t, "done", m, u, 7, did(trial.Alloc(9), trial.Done(3, 4)))
		}
	}
}

// P28.3, P28.4: of one number of a thread at most, that of the last call, the answer is not that it is unknown: whether the cells, or the other call, have another one or not.
func TestUnknown(t *testing.T) {
	nums := slices.Concat([]int{1, 2, 4, 5, 6, 7, 8, 9, 256 + 7, 1<<16 + 7, maxNum - 1, maxNum}, farNums)
	for _, c := range rights {
		for u := range c.Threads {
			m := settled(c, u)
			for _, num := range nums {
				doneAs(m, 1, u, uint32(num), 0, 1, 2)
				for _, of := range nums {
					if of != 7 {
						wantAnswer(t, "unknown", m, u, of, unknown)
					}
				}
			}
		}
	}
}

// P28.3: where no call has a number, nothing is known, neither of 0, which is what the cells have, nor of what the words are that are no numbers.
func TestUnknownWithoutNumber(t *testing.T) {
	for _, c := range rights {
		m := settled(c, 0)
		for _, word := range noNumbers {
			m.Call(0, 0, wordsOf(word, trial.Stats())...)
			m.Call(0, 1, wordsOf(word, trial.Stats())...)
			for _, num := range append([]int{int(int64(word)), int(uint32(word)), int(word & maxNum)}, farNums...) {
				doneAs(m, 1, 0, uint32(num), 0, 1, 2)
				wantAnswer(t, fmt.Sprintf("%x", word), m, 0, num, unknown)
			}
		}
	}
}

// P28.3: if the words of the call are no right operation, none is told, but what became of it; of two calls of one number it is the second one's.
func TestResolveOfNoOperation(t *testing.T) {
	for _, c := range rights {
		for i, o := range wrongOps {
			u := i % c.Threads
			m := settled(c, u)
			m.Call(u, 1, wordsOf(7, o)...)
			for _, other := range []uint64{5, 7} {
				m.Call(u, 0, wordsOf(other, trial.Stats())...)
				doneAs(m, 1, u, 7, 2, 3, 4)
				wantAnswer(t, "done", m, u, 7, did(api.Op{}, api.Result{Err: api.ErrSize, Out: 3, Aux: 4}))
				doneAs(m, 1, u, 6, 2, 3, 4)
				wantAnswer(t, "not done", m, u, 7, not(api.Op{}))
			}
			m.Call(u, 0, wordsOf(7, o)...)
			m.Call(u, 1, wordsOf(7, trial.Stats())...)
			wantAnswer(t, "of both", m, u, 7, not(trial.Stats()))
		}
	}
}

// P28.3: nothing is known, if the words settle to nothing; the last call, and its operation, are told all the same.
func TestUnsettled(t *testing.T) {
	for _, c := range rights {
		for _, u := range []int{0, c.Threads - 1} {
			m := settled(c, u)
			doneAs(m, 9, u, 7, 0, 1, 2)
			wantAnswer(t, "settled", m, u, 7, did(trial.Alloc(9), trial.Done(1, 2)))
			for what, spoil := range map[string]func(trial.Memory){
				"no maker":           func(m trial.Memory) { m.Tip(9, uint32(c.Threads)+1) },
				"no tip":             func(m trial.Memory) { m.Tip(9, 1<<31) },
				"the first cell":     func(m trial.Memory) { m.Cell(0, 10, 1) },
				"the last cell":      func(m trial.Memory) { m.Cell(trial.Cells(c)-1, math.MaxUint32, 1) },
				"the thread's cell":  func(m trial.Memory) { m.Cell(doneAt(u, 3), 10, 1) },
				"an entry of no one": func(m trial.Memory) { m.Open(c.Threads, 9, api.Pair{Cell: trial.Cells(c)}) },
			} {
				m := m.Copied()
				spoil(m)
				for _, num := range []int{7, 5, 0, 8} {
					wantAnswer(t, what, m, u, num, unknown)
				}
				wantLast(t, m, u, 7, 1)
				wantSaid(t, m, u, 7, trial.Alloc(9))
			}
		}
	}
}

// P28.3: the values are those to which the words settle: what an open change writes is done, though no cell is turned yet, or some of them are; what is logged ahead of the tip, or closed, is not.
func TestOpenChange(t *testing.T) {
	for _, c := range rights {
		for u := range c.Threads {
			m := settled(c, u)
			doneAs(m, 3, u, 5, 1, 11, 12)
			m.Tip(9, uint32(u))
			change := []api.Pair{{Cell: doneAt(u, 0), Val: 7}, {Cell: doneAt(u, 1), Val: 0}, {Cell: doneAt(u, 2), Val: 1024}, {Cell: doneAt(u, 3), Val: 128}}
			m.Open(u, 10, change...)
			wantAnswer(t, "logged", m, u, 7, not(trial.Alloc(9)))
			m.Open(u, 9, change...)
			for turned := range 1 << 4 {
				part := m.Copied()
				for f, p := range change {
					if turned>>f&1 == 1 {
						part.Cell(p.Cell, 9, p.Val)
					}
				}
				wantAnswer(t, "open", part, u, 7, did(trial.Alloc(9), trial.Done(1024, 128)))
			}
			m.Note(u, 9, 4)
			wantAnswer(t, "closed", m, u, 7, not(trial.Alloc(9)))
			// An open change may also be that of a later operation.
			doneAs(m, 3, u, 7, 1, 11, 12)
			wantAnswer(t, "closed", m, u, 7, did(trial.Alloc(9), api.Result{Err: 1, Out: 11, Aux: 12}))
			m.Open(u, 9, api.Pair{Cell: doneAt(u, 0), Val: 8})
			wantAnswer(t, "another one", m, u, 7, not(trial.Alloc(9)))
		}
	}
}

// P28.3, P28.4: what is laid is not done, and from then on nothing is known of the one ahead; who lays nothing changes no answer.
func TestLaidAndResolved(t *testing.T) {
	for _, c := range rights {
		for u := range c.Threads {
			m := settled(c, u)
			doneAs(m, 1, u, 7, 0, 1, 2)
			for i, o := range ops {
				laid, ok := call.Lay(c, m.W, u, 8+i, o)
				if !ok {
					t.Fatalf("%v is not laid", o)
				}
				behind := trial.Memory{Config: c, W: laid}
				wantAnswer(t, "laid", behind, u, 8+i, not(o))
				wantAnswer(t, "ahead", behind, u, 7, unknown)
				wantAnswer(t, "not laid", m, u, 7, did(trial.Alloc(9), trial.Done(1, 2)))
				doneAs(behind, 9, u, uint32(8+i), 3, 0, 0)
				wantAnswer(t, "done", behind, u, 8+i, did(o, trial.Failed(api.ErrRoom)))
			}
		}
	}
}
