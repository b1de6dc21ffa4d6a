package call_test

import (
	"testing"

	"nacre/api"
	"nacre/trial"
)

// isNumber tells whether a word is the number of a call.
func isNumber(word uint64) bool { return word >= 1 && word <= maxNum }

// lastOf is the number of the last one of two calls, of which these are the first words, and which one it is.
func lastOf(first, second uint64) (int, int) {
	if !isNumber(second) {
		second = 0
	}
	if isNumber(first) && first > second {
		return int(first), 0
	}
	return int(second), 1
}

// P28.1: Last tells the greater number, and whose it is, whatever the two words are; of like ones, also where none is a number, that of the second call.
func TestLast(t *testing.T) {
	for _, c := range rights {
		m := trial.Blank(c, 1, 0)
		for u := range c.Threads {
			wantLast(t, m, u, 0, 1)
			for _, first := range words {
				for _, second := range words {
					m.Call(u, 0, first)
					m.Call(u, 1, second)
					num, b := lastOf(first, second)
					wantLast(t, m, u, num, b)
				}
			}
		}
	}
}

// P28.1: which number is the greater one, written out.
func TestLastWrittenOut(t *testing.T) {
	w := make([]uint64, 464)
	m := trial.Memory{Config: two, W: w}
	for _, x := range []struct {
		first, second uint64
		num, b        int
	}{
		{0, 0, 0, 1}, {1, 0, 1, 0}, {0, 1, 1, 1}, {5, 7, 7, 1}, {7, 5, 7, 0}, {6, 6, 6, 1},
		{0x7fffffff, 0x7ffffffe, 0x7fffffff, 0}, {0x7fffffff, 0x80000000, 0x7fffffff, 0}, {0x80000000, 1, 1, 1}, {0x80000000, 0, 0, 1},
		{1, 0xffffffffffffffff, 1, 0}, {0x100000007, 5, 5, 1}, {0x100000007, 0x100000005, 0, 1},
	} {
		w[104], w[112], w[224], w[232] = x.first, x.second, 3, 2
		wantLast(t, m, 0, x.num, x.b)
		wantLast(t, m, 1, 3, 0)
		w[104], w[112], w[224], w[232] = 3, 4, x.first, x.second
		wantLast(t, m, 0, 4, 1)
		wantLast(t, m, 1, x.num, x.b)
	}
}

// P28.1: each thread has its own calls, beside those of all others, and of the mending; and no other word of a memory is asked.
func TestEachThread(t *testing.T) {
	for _, c := range rights {
		m := trial.Blank(c, 1, 0)
		for u := range c.Threads + 1 {
			for b := range 2 {
				m.Call(u, b, wordsOf(uint64(100*u+10*b+1), trial.Alloc(int64(2*u+b)))...)
			}
		}
		for u := range c.Threads {
			wantLast(t, m, u, 100*u+11, 1)
			for v := range c.Threads + 1 {
				for b := range 2 {
					if num := 100*v + 10*b + 1; v == u {
						wantSaid(t, m, u, num, trial.Alloc(int64(2*u+b)))
					} else {
						wantNotSaid(t, c, m.W, u, num)
					}
				}
			}
		}
	}
}

// P28.1: Said tells the operation of the call that has the number, whichever of the two it is, and whether it is the last one or not.
func TestSaid(t *testing.T) {
	for _, c := range rights {
		m := trial.Blank(c, 1, 0)
		for u := range c.Threads {
			for i, o := range ops {
				for n, num := range numbers {
					other, more := numbers[(n+1+i)%len(numbers)], ops[(i+1)%len(ops)]
					if other == num {
						other = noNumbers[i%len(noNumbers)]
					}
					for b := range 2 {
						m.Call(u, b, wordsOf(num, o)...)
						m.Call(u, 1-b, wordsOf(other, more)...)
						wantSaid(t, m, u, int(num), o)
						if isNumber(other) {
							wantSaid(t, m, u, int(other), more)
						}
					}
				}
			}
		}
	}
}

// P28.1: where the words of a call stand, written out; those behind them are not asked.
func TestSaidWrittenOut(t *testing.T) {
	w := make([]uint64, 464)
	m := trial.Memory{Config: two, W: w}
	w[104], w[105], w[106], w[107], w[108] = 5, 2, 0xffffffffffffffff, 0, trial.Junk
	w[112], w[113], w[114], w[115], w[116] = 4, 3, 1024, 50, trial.Junk
	w[224], w[225], w[231] = 5, 8, trial.Junk
	w[232], w[233], w[234] = 0x7fffffff, 1, 100
	wantSaid(t, m, 0, 5, trial.Release(-1))
	wantSaid(t, m, 0, 4, trial.Realloc(1024, 50))
	wantSaid(t, m, 1, 5, trial.Stats())
	wantSaid(t, m, 1, 0x7fffffff, trial.Alloc(100))
	wantNotSaid(t, two, w, 1, 4)
	wantNotSaid(t, two, w, 0, 0x7fffffff)
}

// P28.1: of a number that no call has nothing is told.
func TestNotSaid(t *testing.T) {
	for _, c := range rights {
		m := called(c)
		for u := range c.Threads {
			for _, num := range append([]int{1, 2, 3, 4, 6, 8, 9, 256 + 5, 1<<16 + 7, maxNum - 1, maxNum}, farNums...) {
				wantNotSaid(t, c, m.W, u, num)
			}
			wantSaid(t, m, u, 5, trial.Stats())
			wantSaid(t, m, u, 7, trial.Alloc(9))
		}
	}
}

// P28.1: of what is no number nothing is told, also where it stands in the first word of a call.
func TestSaidOfNoNumber(t *testing.T) {
	for _, c := range rights {
		m := trial.Blank(c, 1, 0)
		for _, u := range []int{0, c.Threads - 1} {
			for _, num := range farNums {
				for b := range 2 {
					m.Call(u, b, wordsOf(uint64(num), trial.Stats())...)
					m.Call(u, 1-b, wordsOf(0, trial.Stats())...)
					wantNotSaid(t, c, m.W, u, num)
					wantNotSaid(t, c, m.W, u, 0)
					wantLast(t, m, u, 0, 1)
				}
			}
			for _, word := range noNumbers {
				m.Call(u, 0, wordsOf(word, trial.Stats())...)
				wantNotSaid(t, c, m.W, u, int(int64(word)))
				wantNotSaid(t, c, m.W, u, int(uint32(word)))
				wantNotSaid(t, c, m.W, u, int(word&maxNum))
			}
		}
	}
}

// P28.1: of a call whose words are no right operation nothing is told; it has its number all the same.
func TestSaidOfNoOperation(t *testing.T) {
	for _, c := range rights {
		m := trial.Blank(c, 1, 0)
		for _, u := range []int{0, c.Threads - 1} {
			for i, o := range wrongOps {
				num := numbers[i%len(numbers)]
				for b := range 2 {
					m.Call(u, b, wordsOf(num, o)...)
					m.Call(u, 1-b, wordsOf(0, trial.Stats())...)
					wantNotSaid(t, c, m.W, u, int(num))
					wantLast(t, m, u, int(num), b)
				}
			}
		}
	}
}

// P28.1: of two calls of one number the second one's operation is told, and none, if that has none.
func TestSaidOfBoth(t *testing.T) {
	for _, c := range rights {
		m := trial.Blank(c, 1, 0)
		for u := range c.Threads {
			for i, num := range numbers {
				m.Call(u, 0, wordsOf(num, trial.Stats())...)
				m.Call(u, 1, wordsOf(num, ops[i])...)
				wantSaid(t, m, u, int(num), ops[i])
				wantLast(t, m, u, int(num), 1)
				m.Call(u, 1, wordsOf(num, wrongOps[i])...)
				wantNotSaid(t, c, m.W, u, int(num))
				m.Call(u, 0, wordsOf(num, api.Op{})...)
				m.Call(u, 1, wordsOf(num, trial.Stats())...)
				wantSaid(t, m, u, int(num), trial.Stats())
			}
		}
	}
}
