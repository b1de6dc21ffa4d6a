package root_test

import (
	"testing"

	"nacre/place"
	"nacre/root"
	"nacre/trial"
	"nacre/view"
)

// plain is a View on which the chapter's lines are done as they stand there.
type plain struct{ *view.View }

// get is what the chapter says of Get.
func (p plain) get(i int) (int64, bool) {
	if i < 0 || i > 7 {
		return 0, false
	}
	return int64(p.Get(place.Root(i))), true
}

// set is what the chapter says of Set.
func (p plain) set(i int, a int64) bool {
	if i < 0 || i > 7 || a < 0 || a >= 1<<32 {
		return false
	}
	p.Put(place.Root(i), uint32(a))
	return true
}

// held is what the chapter says of Held.
func (p plain) held(a int64) bool {
	if a < 1 {
		return false
	}
	for i := 0; i <= 7; i++ {
		if int64(p.Get(place.Root(i))) == a {
			return true
		}
	}
	return false
}

// follow is what the chapter says of Follow.
func (p plain) follow(from, to int64) {
	if from < 1 || from >= 1<<32 || to < 1 || to >= 1<<32 {
		return
	}
	for i := 0; i <= 7; i++ {
		if int64(p.Get(place.Root(i))) == from {
			p.Put(place.Root(i), uint32(to))
		}
	}
}

// wantDone does one by chance on both, and asks whether the same is done and told.
func (p plain) wantDone(t *testing.T, v *view.View, by *trial.Chance) {
	t.Helper()
	i, a, b := number(by), address(by), address(by)
	switch by.Next(4) {
	case 0:
		got, ok := root.Get(v, i)
		if want, is := p.get(i); got != want || ok != is {
			t.Fatalf("Get(%d) = %d, %t, not %d, %t", i, got, ok, want, is)
		}
		trial.WantSame(t, "Get", v, p.View)
	case 1:
		wantSet(t, v, i, a, p.set(i, a))
		trial.WantSame(t, "Set", v, p.View)
	case 2:
		wantHeld(t, v, a, p.held(a))
		trial.WantSame(t, "Held", v, p.View)
	default:
		root.Follow(v, a, b)
		p.follow(a, b)
		trial.WantSame(t, "Follow", v, p.View)
	}
}

// number is a number by chance, most often that of a root.
func number(by *trial.Chance) int {
	if by.Next(8) == 0 {
		return by.Pick(noRoots...)
	}
	return by.Next(count)
}

// address is what a root has, by chance: most often one of few, so that roots have the same, else 0, one at an edge, or one that no root can have.
func address(by *trial.Chance) int64 {
	switch by.Next(10) {
	case 0:
		return 0
	case 1:
		return values[by.Next(len(values))]
	case 2:
		return below[by.Next(len(below))]
	case 3:
		return beyond[by.Next(len(beyond))]
	}
	return int64(1+by.Next(4)) * 1024
}

// P21.1, P21.2, P21.3: rows by chance, of Views of which all cells are known, or not: what is told, read, put and missing is what the chapter's lines say.
func TestAsTheLinesSay(t *testing.T) {
	for seed := range 8000 {
		by := trial.Chance(seed)
		vals := laid()[:by.Pick(first+count+12, first+count+12, first+count+12, 1+by.Next(first+count))]
		for at := first; at < min(first+count, len(vals)); at++ {
			vals[at] = uint32(address(&by))
		}
		v, as := by.Twins(vals)
		for range 1 + by.Next(12) {
			plain{as}.wantDone(t, v, &by)
		}
	}
}
