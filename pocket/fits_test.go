package pocket_test

import (
	"fmt"
	"slices"
	"testing"

	"nacre/addr"
	"nacre/api"
	"nacre/place"
	"nacre/pocket"
	"nacre/slab"
	"nacre/trial"
	"nacre/view"
)

// What heaps are laid of.
var (
	free = trial.Free
	used = trial.Used
	of   = trial.Slab
)

// slotsOf is how many slots a slab of each class has, as chapter 5 has it.
var slotsOf = [classes]int{32, 21, 16, 10, 8, 5, 4, 3, 2}

// slotSize is how many bytes a slot of the class k has.
func slotSize(shift, k int) int64 {
	return int64(1) << shift / int64(slotsOf[k]) / 16 * 16
}

// isFit tells whether the pockets fit a heap in which just this is at hand.
func isFit(c api.Config, slots []trial.Hand, all []api.Pockets) bool {
	for _, p := range all {
		for _, l := range p {
			if len(l) > room {
				return false
			}
		}
	}
	return len(all) == c.Threads && slices.Equal(trial.InPockets(all), slots)
}

func wantFits(t *testing.T, what string, c api.Config, vals []uint32, all []api.Pockets, want bool) {
	t.Helper()
	if pocket.Fits(c, vals, all) != want {
		t.Fatalf("%s: Fits(%v, .., %v) is not %t", what, c, all, want)
	}
}

// threads is the Pockets of several threads.
func threads(all ...api.Pockets) []api.Pockets { return all }

// pair is Pockets of which two pockets have something.
func pair(k int, l []int64, to int, m ...int64) api.Pockets {
	return with(with(api.Pockets{}, k, l...), to, m...)
}

// one is Pockets of which one pocket alone has something.
func one(k int, l ...int64) api.Pockets { return with(api.Pockets{}, k, l...) }

// nobody is Pockets that are empty.
var nobody api.Pockets

// mix is a heap of the eight pages with slots at hand: of the class 4 those at 1024 and 1280, of the class 8 those at 2048 and 2560, of the class 1 that at 7104.
var mix = []trial.Piece{of(4, 7, 2), of(8, 3, 0), used(2), free(1), of(1, 1<<21-1, 1<<20-1), free(2)}

// P17.3: which pockets fit: those of all threads that have just the slots at hand, each once, in a pocket of its class; whose they are, and in which order they stand there, is the same.
func TestFits(t *testing.T) {
	vals := trial.Lay(eight, mix...).Vals
	p := with(pair(4, []int64{1024, 1280}, 8, 2048, 2560), 1, 7104)
	for _, all := range [][]api.Pockets{
		threads(p, nobody), threads(nobody, p),
		threads(with(p, 4, 1280, 1024), nobody),
		threads(with(p, 8, 2560, 2048), nobody),
		threads(with(p, 4, 1280), one(4, 1024)),
		threads(with(p, 1), one(1, 7104)),
		threads(pair(4, []int64{1024}, 8, 2560), with(pair(4, []int64{1280}, 8, 2048), 1, 7104)),
	} {
		wantFits(t, "just what is at hand", eight, vals, all, true)
	}
	for k := range classes {
		for i := range p[k] {
			less := slices.Delete(slices.Clone(p[k]), i, i+1)
			wantFits(t, "one is not there", eight, vals, threads(with(p, k, less...), nobody), false)
		}
		wantFits(t, "a pocket is empty", eight, vals, threads(with(p, k), nobody), len(p[k]) == 0)
	}
	wantFits(t, "none is there", eight, vals, threads(nobody, nobody), false)
}

// P17.3: nothing else may stand in a pocket: no slot that is live, or free, no block or span of pages, no byte that is left over in a slab, or that is within a slot; and no address of no byte.
func TestFitsJustSlotsAtHand(t *testing.T) {
	vals := trial.Lay(eight, mix...).Vals
	p := with(pair(4, []int64{1024, 1280}, 8, 2048, 2560), 1, 7104)
	for _, a := range append([]int64{
		1152, 1408, 1920, 1025, 1040, 1279, 2047, 2049, 2304, 3072, 4096, 5120, 6144, 6192, 7056, 7103, 7105, 7152, 7167, 7168, 8192, 9215,
		1024 + 1<<32, 1280 - 1<<32, 1024 - 1<<63,
	}, noBytes...) {
		for k := range classes {
			what := fmt.Sprintf("%d in the pocket %d", a, k)
			more := append(slices.Clone(p[k]), a)
			wantFits(t, what, eight, vals, threads(with(p, k, more...), nobody), false)
			wantFits(t, what, eight, vals, threads(p, one(k, a)), false)
			for i := range p[k] {
				other := slices.Clone(p[k])
				other[i] = a
				wantFits(t, what, eight, vals, threads(with(p, k, other...), nobody), false)
			}
		}
	}
}

// P17.3: of each class: a slot stands in a pocket of its class, and in no other one; and just once in all pockets.
func TestFitsOnceInItsClass(t *testing.T) {
	for _, c := range rights {
		c.Threads = 2
		for k := range classes {
			slot := of(k, 2, 0)
			vals := trial.Lay(c, slot, used(1), free(c.Pages-2)).Vals
			a := int64(1)<<c.Shift + slotSize(c.Shift, k)
			wantFits(t, "at hand", c, vals, threads(one(k, a), nobody), true)
			wantFits(t, "at hand", c, vals, threads(nobody, one(k, a)), true)
			wantFits(t, "nowhere", c, vals, threads(nobody, nobody), false)
			wantFits(t, "twice in a pocket", c, vals, threads(one(k, a, a), nobody), false)
			wantFits(t, "of two threads", c, vals, threads(one(k, a), one(k, a)), false)
			for to := range classes {
				if to == k {
					continue
				}
				wantFits(t, "of another class", c, vals, threads(one(to, a), nobody), false)
				wantFits(t, "of two classes", c, vals, threads(pair(k, []int64{a}, to, a), nobody), false)
				wantFits(t, "of two classes and threads", c, vals, threads(one(to, a), one(k, a)), false)
			}
		}
	}
}

// P17.3: what stands twice does not make up for what stands nowhere; and two slots that changed their classes' pockets do not fit.
func TestFitsNoExchange(t *testing.T) {
	vals := trial.Lay(eight, of(4, 3, 0), of(5, 3, 0), free(6)).Vals
	wantFits(t, "at hand", eight, vals, threads(pair(4, []int64{1024, 1152}, 5, 2048, 2240), nobody), true)
	wantFits(t, "one twice, one nowhere", eight, vals, threads(pair(4, []int64{1024, 1024}, 5, 2048, 2240), nobody), false)
	wantFits(t, "one twice, one nowhere", eight, vals, threads(pair(4, []int64{1024}, 5, 2048, 2240), one(4, 1024)), false)
	wantFits(t, "another one", eight, vals, threads(pair(4, []int64{1024, 1280}, 5, 2048, 2240), nobody), false)
	wantFits(t, "changed", eight, vals, threads(pair(4, []int64{1024, 2048}, 5, 1152, 2240), nobody), false)
	wantFits(t, "all changed", eight, vals, threads(pair(5, []int64{1024, 1152}, 4, 2048, 2240), nobody), false)
}

// P17.3: no pocket has more than four addresses, also if all of them are at hand.
func TestFitsAsThereIsRoom(t *testing.T) {
	for k, slots := range slotsOf {
		for n := 1; n <= min(slots, 9); n++ {
			var l []int64
			for s := range n {
				l = append(l, 1024+int64(s)*slotSize(10, k))
			}
			vals := trial.Lay(eight, of(k, 1<<n-1, 0), free(7)).Vals
			wantFits(t, "of one", eight, vals, threads(one(k, l...), nobody), n <= 4)
			wantFits(t, "of the other one", eight, vals, threads(nobody, one(k, l...)), n <= 4)
			wantFits(t, "all but one", eight, vals, threads(one(k, l[1:]...), one(k, l[0])), n <= 5)
			half := n / 2
			wantFits(t, "of two", eight, vals, threads(one(k, l[half:]...), one(k, l[:half]...)), n <= 8)
		}
	}
}

// P17.3: they are the Pockets of as many threads as the configuration has, no more and no fewer, be they empty.
func TestFitsAllThreads(t *testing.T) {
	for n := 1; n <= 16; n++ {
		c := api.Config{Threads: n, Pages: 8, Shift: 10}
		bare := trial.Lay(c, used(3), of(3, 1, 1), free(4)).Vals
		vals := trial.Lay(c, used(3), of(3, 3, 1), free(4)).Vals
		for many := range 34 {
			all := make([]api.Pockets, many)
			wantFits(t, "empty", c, bare, all, many == n)
			wantFits(t, "empty", c, vals, all, false)
			for i := range all {
				all[i] = one(3, 4096+96)
				wantFits(t, "one slot", c, vals, all, many == n)
				wantFits(t, "one slot", c, bare, all, false)
				all[i] = nobody
			}
		}
	}
}

// P17.3: nothing fits values that are no heap: of no right configuration, too few or too many, or with a cell that breaks a rule, also if just the same slots are at hand.
func TestFitsNoHeap(t *testing.T) {
	vals := trial.Lay(eight, mix...).Vals
	p := with(pair(4, []int64{1024, 1280}, 8, 2048, 2560), 1, 7104)
	all := threads(p, nobody)
	wantFits(t, "a heap", eight, vals, all, true)
	for i := range vals {
		for _, by := range []uint32{1, 1 << 31} {
			other := slices.Clone(vals)
			other[i] += by
			// What a thread has done is no rule's.
			ok := i >= place.Done(eight, 0, 0) && i < place.Info(eight, 0)
			wantFits(t, fmt.Sprintf("the cell %d is %d", i, other[i]), eight, other, all, ok)
		}
	}
	for _, l := range [][]uint32{nil, {}, vals[:1], vals[:len(vals)-1], append(slices.Clone(vals), 0), make([]uint32, len(vals))} {
		wantFits(t, "not as many cells", eight, l, all, false)
		wantFits(t, "not as many cells, and nothing at hand", eight, l, threads(nobody, nobody), false)
	}
	for _, c := range none {
		for _, l := range [][]uint32{nil, vals} {
			wantFits(t, "not right", c, l, nil, false)
			wantFits(t, "not right", c, l, all, false)
			wantFits(t, "not right", c, l, make([]api.Pockets, 17), false)
			if c.Threads >= 0 && c.Threads < 1<<10 {
				wantFits(t, "not right", c, l, make([]api.Pockets, c.Threads), false)
			}
		}
	}
}

// P17.3: what is handed in stays as it is.
func TestFitsChangesNothing(t *testing.T) {
	vals := trial.Lay(eight, mix...).Vals
	was := slices.Clone(vals)
	for _, p := range []api.Pockets{
		with(pair(4, []int64{1280, 1024}, 8, 2560, 2048), 1, 7104),
		pair(4, []int64{1280, 1024, 1280}, 8, 2560, 2048, 3, 2, 1),
	} {
		all := threads(nobody, p)
		at := threads(nobody, trial.CopyPockets(p))
		pocket.Fits(eight, vals, all)
		if !slices.Equal(vals, was) || !slices.EqualFunc(all, at, isSame) {
			t.Fatalf("the values are %v, and the Pockets %v, not %v, and %v", vals, all, was, at)
		}
	}
}

// spoilt is the Pockets, with something else in them by chance, which may be as good.
func spoilt(by *trial.Chance, c api.Config, all []api.Pockets) []api.Pockets {
	all = slices.Clone(all)
	for i := range all {
		all[i] = trial.CopyPockets(all[i])
	}
	t, k, to := by.Next(len(all)), by.Next(classes), by.Next(classes)
	from := by.Next(len(all))
	for range 40 {
		if len(all[from][k]) > 0 {
			break
		}
		from, k = by.Next(len(all)), by.Next(classes)
	}
	l := all[from][k]
	if len(l) == 0 {
		all[t][to] = append(all[t][to], int64(1+by.Next(c.Pages))<<c.Shift)
		return all
	}
	at := by.Next(len(l))
	a := l[at]
	switch by.Next(6) {
	case 0:
		all[from][k] = slices.Delete(l, at, at+1)
	case 1:
		all[t][k] = append(all[t][k], a)
	case 2:
		l[at] += int64(by.Pick(1, -1, 16, -16, int(slotSize(c.Shift, k)), -int(slotSize(c.Shift, k)), 1<<c.Shift))
	case 3:
		all[from][k] = slices.Delete(l, at, at+1)
		all[t][to] = append(all[t][to], a)
	case 4:
		all[from][k] = slices.Delete(l, at, at+1)
		all[t][k] = append(all[t][k], a)
	case 5:
		slices.Reverse(l)
	}
	return all
}

// P17.3: heaps of each sort, with the slots at hand dealt out among the threads: they fit; and with something else in the pockets they fit just if the same slots stand there, and there is room for them.
func TestFitsByChance(t *testing.T) {
	fit, not := 0, 0
	for seed := range 500 {
		by := trial.Chance(seed)
		c := api.Config{Threads: 1 + by.Next(by.Pick(2, 4, 16)), Pages: 4 + by.Next(by.Pick(6, 30)), Shift: 10 + by.Next(11)}
		if seed < len(rights) {
			c = rights[seed]
		}
		pieces := by.Thin(c, by.Pieces(c.Pages))
		vals, slots := trial.Lay(c, pieces...).Vals, trial.AtHand(c, pieces...)
		all := by.Deal(c, slots)
		wantFits(t, fmt.Sprintf("heap %d", seed), c, vals, all, true)
		for range 20 {
			other := spoilt(&by, c, all)
			is := isFit(c, slots, other)
			wantFits(t, fmt.Sprintf("heap %d, spoilt", seed), c, vals, other, is)
			if is {
				fit++
			} else {
				not++
			}
		}
	}
	if fit < 1000 || not < 1000 {
		t.Fatalf("of those that were spoilt %d fit, %d do not", fit, not)
	}
}

// P17.3: on heaps where more is at hand than there is room for no pockets fit.
func TestFitsWhereTooManyAreAtHand(t *testing.T) {
	c := api.Config{Threads: 1, Pages: 4, Shift: 10}
	pieces := []trial.Piece{of(8, 3, 0), of(8, 3, 0), of(8, 3, 0), used(1)}
	vals := trial.Lay(c, pieces...).Vals
	var l []int64
	for _, x := range trial.AtHand(c, pieces...) {
		l = append(l, x.Addr)
	}
	for n := range len(l) + 1 {
		wantFits(t, "too many", c, vals, threads(one(8, l[:n]...)), false)
	}
}

// held is a heap whose slots at hand are in the pockets of its threads.
type held struct {
	c   api.Config
	v   *view.View
	all []api.Pockets
}

// take puts slots that are picked into a pocket that has room for them.
func (h held) take(t *testing.T, who, k, want int) {
	t.Helper()
	want = min(want, room-len(h.all[who][k]))
	page, l, ok := slab.Pick(h.v, h.c, k, want)
	if !ok {
		return
	}
	for _, s := range l {
		a, _ := addr.At(h.c, k, page, s)
		wantFits(t, "one is in no pocket", h.c, h.v.Vals(), h.all, false)
		h.all[who] = wantPush(t, h.all[who], k, a)
	}
}

// give gives the slot at an address back, which is in no pocket any more.
func (h held) give(k int, a int64) {
	page, off, _ := addr.Page(h.c, a)
	s, _ := addr.Slot(h.c, k, off)
	slab.Give(h.v, h.c, page, s)
}

// flush gives the slots of a pocket back that are on the page of the last one, or on another one.
func (h held) flush(t *testing.T, who, k int) {
	t.Helper()
	a, ok := pocket.Last(h.all[who], k)
	if !ok {
		return
	}
	page, _, _ := addr.Page(h.c, a)
	l := pocket.On(h.c, h.all[who], k, page)
	if !slices.Contains(l, a) {
		t.Fatalf("On(.., %v, %d, %d) = %v", h.all[who], k, page, l)
	}
	h.all[who] = pocket.Off(h.c, h.all[who], k, page)
	for _, a := range l {
		wantFits(t, "one is in no pocket", h.c, h.v.Vals(), h.all, false)
		h.give(k, a)
	}
}

// P17.1 to P17.4: slots that are picked are put into pockets, and given back one by one, or a page at once: each time the pockets fit, and no sooner.
func TestAsSlotsGo(t *testing.T) {
	for seed := range 40 {
		by := trial.Chance(seed)
		c := api.Config{Threads: 1 + by.Next(3), Pages: 4 + by.Next(8), Shift: 10 + by.Next(11)}
		h := held{c, view.Whole(trial.Lay(c, free(c.Pages)).Vals), make([]api.Pockets, c.Threads)}
		for range 60 {
			who, k := by.Next(c.Threads), by.Next(classes)
			switch by.Next(4) {
			case 0, 1:
				h.take(t, who, k, 1+by.Next(4))
			case 2:
				if a, p, ok := pocket.Pop(h.all[who], k); ok {
					h.all[who] = p
					wantFits(t, "one is in no pocket", c, h.v.Vals(), h.all, false)
					h.give(k, a)
				}
			case 3:
				h.flush(t, who, k)
			}
			wantFits(t, "all are in pockets", c, h.v.Vals(), h.all, true)
		}
	}
}
