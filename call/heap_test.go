package call_test

import (
	"testing"

	"nacre/api"
	"nacre/fresh"
	"nacre/heap"
	"nacre/mark"
	"nacre/place"
	"nacre/redo"
	"nacre/sweep"
	"nacre/trial"
	"nacre/view"
)

// kept is a heap's memory in which threads announce and do operations, and are cut off; nums are the numbers of their last ones, and told what is to be told of these.
type kept struct {
	trial.Dealt
	m     trial.Memory
	vals  []uint32
	stamp uint32
	nums  []int
	told  []api.Answer
}

// want asks, of these words, what became of the last operation of each thread, and of no other one.
func (k *kept) want(t *testing.T, what string, m trial.Memory) {
	t.Helper()
	for u, a := range k.told {
		wantAnswer(t, what, m, u, k.nums[u], a)
		wantAnswer(t, what, m, u, k.nums[u]-1, unknown)
		wantAnswer(t, what, m, u, k.nums[u]+1, unknown)
	}
}

// announce has the thread u announce an operation, and asks, of whatever is kept of its words ahead of the number, whether the one ahead is told still.
func (k *kept) announce(t *testing.T, by *trial.Chance, u, num int, o api.Op) {
	t.Helper()
	b := 0
	if k.nums[u] > 0 {
		_, b = lastOf(k.m.W[trial.CallAt(k.C, u, 0)], k.m.W[trial.CallAt(k.C, u, 1)])
		b = 1 - b
	}
	words, part := wordsOf(uint64(num), o), k.m.Copied()
	for range 4 {
		i := 1 + by.Next(3)
		part.W[trial.CallAt(k.C, u, b)+i] = words[i]
		k.want(t, "announced in part", part)
	}
	k.m = wantLaid(t, k.m, u, num, b, o)
	k.nums[u], k.told[u] = num, not(o)
	k.want(t, "announced", k.m)
}

// logged is the memory with the change of a maker in its log, and asks whether it is not told yet.
func (k *kept) logged(t *testing.T, u int, writes []api.Pair) trial.Memory {
	t.Helper()
	w, ok := redo.Lay(k.C, k.m.W, u, k.stamp+1, writes)
	if !ok {
		t.Fatalf("%d entries are not laid for %d of %v", len(writes), u, k.C)
	}
	m := trial.Memory{Config: k.C, W: w}
	k.want(t, "logged", m)
	return m
}

// made makes the change that was logged, and asks whether it is told, whichever of its cells are turned.
func (k *kept) made(t *testing.T, by *trial.Chance, m trial.Memory, u int, writes []api.Pair, vals []uint32) {
	t.Helper()
	k.stamp++
	m.Tip(k.stamp, uint32(u))
	k.want(t, "made", m)
	for range by.Next(len(writes) + 1) {
		p := writes[by.Next(len(writes))]
		m.W[place.Word(k.C, p.Cell)] = mark.Cell(k.stamp, p.Val)
		k.want(t, "turned in part", m)
	}
	tidy, ok := redo.Tidy(k.C, m.W)
	if !ok {
		t.Fatalf("words of %v are not tidied", k.C)
	}
	k.m.W, k.vals = tidy, vals
	k.want(t, "tidied", k.m)
}

// lose has all threads lose what they had at hand, and the mending give it back: what is told stays.
func (k *kept) lose(t *testing.T, by *trial.Chance) {
	t.Helper()
	clear(k.All)
	for p := range k.C.Pages {
		k.V = view.Whole(k.vals)
		if sweep.Page(k.V, k.C, p) {
			writes := k.V.Writes()
			k.made(t, by, k.logged(t, k.C.Threads, writes), k.C.Threads, writes, k.V.Vals())
		}
	}
	k.WantFits(t, "swept")
}

// do has the thread u announce and do an operation, or be cut off ahead of the tip's swap.
func (k *kept) do(t *testing.T, by *trial.Chance) {
	t.Helper()
	u := by.Next(k.C.Threads)
	num, o := k.nums[u]+1+by.Next(3), by.Op(k.C, k.Blocks(), k.All[u])
	k.announce(t, by, u, num, o)
	k.V = view.Whole(k.vals)
	res, p := heap.Do(k.V, k.C, u, num, k.All[u], o)
	m := k.logged(t, u, k.V.Writes())
	if by.Next(8) == 0 {
		k.lose(t, by)
		return
	}
	k.All[u], k.told[u] = p, did(o, res)
	k.made(t, by, m, u, k.V.Writes(), k.V.Vals())
	if by.Next(12) == 0 {
		k.lose(t, by)
	}
}

// P28.3, P28.4: rows of operations of all threads, which are cut off anywhere, and mending between: of each thread it is told of its last operation, and of no other one, whether it took effect, and what it answered, till the thread announces another one.
func TestOperationsThatAreCutOff(t *testing.T) {
	for seed := range 60 {
		by := trial.Chance(seed)
		c := api.Config{Threads: 1 + by.Next(4), Pages: 4 + by.Next(12), Shift: 10 + by.Next(11)}
		k := kept{m: trial.Memory{Config: c, W: fresh.Words(c)}, vals: fresh.Vals(c), stamp: 1}
		k.Dealt = trial.Dealt{Ground: trial.Ground{C: c, V: view.Whole(k.vals)}, All: make([]api.Pockets, c.Threads)}
		k.nums, k.told = make([]int, c.Threads), make([]api.Answer, c.Threads)
		for range 50 {
			k.do(t, &by)
		}
	}
}
