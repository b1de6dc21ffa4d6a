package model_test

import (
	"fmt"
	"testing"

	"nacre/api"
	"nacre/audit"
	"nacre/fresh"
	"nacre/heap"
	"nacre/model"
	"nacre/trial"
	"nacre/view"
)

// held is what a heap holds.
func held(t *testing.T, d trial.Dealt) api.State {
	t.Helper()
	s, ok := audit.State(d.C, d.V.Vals())
	if !ok {
		t.Fatalf("the values of %v are no heap", d.C)
	}
	return s
}

// someOp is an operation by chance of a thread, which is not right now and then.
func someOp(by *trial.Chance, d trial.Dealt, s api.State, who int) api.Op {
	o := by.Op(d.C, s.Live, d.All[who])
	if by.Next(30) == 0 {
		o.Kind, o.B = by.Next(12), int64(by.Pick(1, 20, -1))
	}
	return o
}

// follows has a thread of the heap do an operation, and asks whether the Model allows what it answers, and has what the heap holds behind it.
func follows(t *testing.T, what string, m *model.Model, d trial.Dealt, who, num int, o api.Op) api.Result {
	t.Helper()
	r, left := heap.Do(d.V, d.C, who, num, d.All[who], o)
	d.All[who] = left
	if !m.Allows(o, r) || !m.Apply(o, r) {
		t.Fatalf("%s: of %v %v may not answer %v", what, d.C, o, r)
	}
	wantState(t, m, held(t, d))
	return r
}

// P26.5: what is answered on heaps of each sort, in long rows of all threads, is allowed, by the Model that goes along with it as by one of what the heap holds; and both have what it holds then.
func TestOnHeaps(t *testing.T) {
	for i, d := range trial.Dealts(t, rights) {
		d.Name()
		by := trial.Chance(i)
		m := of(t, d.C, held(t, d))
		for turn := range 150 {
			what := fmt.Sprintf("heap %d, turn %d", i, turn)
			s, who := held(t, d), by.Next(d.C.Threads)
			o := someOp(&by, d, s, who)
			r := follows(t, what, m, d, who, 1+turn, o)
			if as := of(t, d.C, s); !as.Allows(o, r) || !as.Apply(o, r) || !audit.Same(as.State(), m.State()) {
				t.Fatalf("%s: of %v %v may not answer %v", what, d.C, o, r)
			}
			d.V = view.Whole(d.V.Vals())
		}
	}
}

// P26.5: a fresh heap holds what a new Model has, and is filled, and freed, along with it.
func TestFilledAndFreed(t *testing.T) {
	for i, size := range []int64{1, 33, 200, 512, 513, 1024, 3000, 4096} {
		c := api.Config{Threads: 2, Pages: 12, Shift: 10}
		d := trial.Dealt{Ground: trial.Ground{C: c, V: view.Whole(fresh.Vals(c))}, All: make([]api.Pockets, 2)}
		m, what := model.New(c), fmt.Sprintf("of %d bytes", size)
		wantState(t, m, held(t, d))
		num, l := 0, []int64(nil)
		for {
			num++
			r := follows(t, what, m, d, num%2, num, alloc(size))
			if r.Err != 0 {
				break
			}
			l = append(l, r.Out)
		}
		for _, a := range l {
			num++
			follows(t, what, m, d, (num+i)%2, num, release(a))
		}
		wantState(t, m, api.State{})
	}
}
