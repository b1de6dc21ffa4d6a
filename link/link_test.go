package link_test

import (
	"fmt"
	"math"
	"slices"
	"testing"

	"nacre/api"
	"nacre/audit"
	"nacre/link"
	"nacre/place"
	"nacre/trial"
	"nacre/view"
)

// six is the configuration of six pages whose cells some tests write out: Next of the page p is the cell 40 and 6 times p, Prev the one behind it.
var six = api.Config{Threads: 2, Pages: 6, Shift: 10}

// bin is the head of the list that those tests have: that of the bin 1.
const bin = 3

// Configurations of each sort, and numbers that are no page's.
var (
	rights   = trial.Rights(six)
	wrongs   = trial.Wrongs(six)
	pageless = trial.Pageless(six)
	noPages  = trial.NoPages()
)

// noLinks are values that are the link of no page of the six.
var noLinks = []uint32{7, 8, 255, 256 + 3, 1<<16 + 3, 1 << 31, 1<<31 + 3, math.MaxUint32 - 1, math.MaxUint32}

// heads are cells at which the lists of a heap begin.
func heads() []int {
	var l []int
	for head := 2; head < 22; head++ {
		l = append(l, head)
	}
	return l
}

// noCells are no cells of a View of fewer than 8192.
var noCells = []int{-1, -2, -1 << 32, math.MinInt, 8192, 1 << 32, 1<<32 + bin, math.MaxInt}

// laid is values of which just those of a list of these pages are no rising ones.
func laid(c api.Config, head int, pages ...int) []uint32 {
	vals := trial.Rising(place.Cells(c))
	trial.Heap{Config: c, Vals: vals}.Relink(head, pages...)
	return vals
}

// wantWalk asks whether a list has just these pages, so ordered.
func wantWalk(t *testing.T, v *view.View, c api.Config, head int, pages ...int) {
	t.Helper()
	if got := link.Walk(v, c, head); !slices.Equal(got, pages) {
		t.Fatalf("Walk(%v, %d) = %v, not %v", c, head, got, pages)
	}
}

// wantList asks whether the values are those of a list of just these pages, with every Prev, and no other one turned.
func wantList(t *testing.T, v *view.View, was []uint32, c api.Config, head int, pages ...int) {
	t.Helper()
	want := trial.Heap{Config: c, Vals: slices.Clone(was)}
	want.Relink(head, pages...)
	if got := v.Vals(); !slices.Equal(got, want.Vals) {
		t.Fatalf("the values of %v are %v, not %v", c, got, want.Vals)
	}
}

// P13.1: the chapter's example, at each head.
func TestExample(t *testing.T) {
	for _, c := range rights {
		for _, head := range heads() {
			v := view.Whole(make([]uint32, place.Cells(c)))
			link.Push(v, c, head, 2)
			want := make([]uint32, place.Cells(c))
			want[head] = 3
			if got := v.Vals(); !slices.Equal(got, want) {
				t.Fatalf("the values of %v are %v, not %v", c, got, want)
			}
			trial.WantCells(t, v, []int{head}, place.Next(c, 2), 0, place.Prev(c, 2), 0, head, 3)
			wantWalk(t, v, c, head, 2)
		}
	}
}

// P13.1: each page is pushed onto an empty list: what its links were is gone, also where that was the link of a page.
func TestPushOntoNoPages(t *testing.T) {
	for _, c := range rights {
		for p := range c.Pages {
			for _, was := range []uint32{0, 1, uint32(c.Pages), 1 << 30} {
				vals := laid(c, bin)
				vals[place.Next(c, p)], vals[place.Prev(c, p)] = was, was
				v := view.Whole(vals)
				link.Push(v, c, bin, p)
				trial.WantCells(t, v, []int{bin}, place.Next(c, p), 0, place.Prev(c, p), 0, bin, p+1)
				wantList(t, v, vals, c, bin, p)
			}
		}
	}
}

// P13.1: behind Push onto pages the page is the first one, and Prev of the one that was first names it; the others know nothing of it.
func TestPushOntoPages(t *testing.T) {
	vals := laid(six, bin, 4)
	v := view.Whole(vals)
	link.Push(v, six, bin, 2)
	trial.WantCells(t, v, []int{3}, 52, 5, 53, 0, 65, 3, 3, 3)
	wantList(t, v, vals, six, bin, 2, 4)
	link.Push(v, six, bin, 0)
	trial.WantCells(t, v, []int{3}, 52, 5, 53, 1, 65, 3, 3, 1, 40, 3, 41, 0)
	wantList(t, v, vals, six, bin, 0, 2, 4)

	vals = laid(six, bin, 5, 0, 3, 1)
	v = view.Whole(vals)
	link.Push(v, six, bin, 2)
	trial.WantCells(t, v, []int{3}, 52, 6, 53, 0, 71, 3, 3, 3)
	wantList(t, v, vals, six, bin, 2, 5, 0, 3, 1)
}

// P13.1, P13.3: all pages of a heap go into one list.
func TestPushOfAllPages(t *testing.T) {
	for _, c := range rights {
		vals := laid(c, bin)
		v := view.Whole(vals)
		var pages []int
		for i := range c.Pages {
			// No number of pages here has 5 in it: so each page is come to once, in no plain order.
			p := (i*5 + 3) % c.Pages
			link.Push(v, c, bin, p)
			pages = slices.Insert(pages, 0, p)
		}
		wantWalk(t, v, c, bin, pages...)
		wantList(t, v, vals, c, bin, pages...)
	}
}

// P13.2: the only page is pulled.
func TestPullOfTheOnlyPage(t *testing.T) {
	for _, c := range rights {
		for p := range c.Pages {
			vals := laid(c, bin, p)
			v := view.Whole(vals)
			link.Pull(v, c, bin, p)
			trial.WantCells(t, v, []int{place.Next(c, p), place.Prev(c, p)}, bin, 0, place.Next(c, p), 0, place.Prev(c, p), 0)
			wantList(t, v, vals, c, bin)
		}
	}
	v := view.Whole(laid(six, bin, 2))
	link.Pull(v, six, bin, 2)
	trial.WantCells(t, v, []int{52, 53}, 3, 0, 52, 0, 53, 0)
}

// P13.2: the first page is pulled: the head leads to the one behind it, which has none ahead.
func TestPullOfTheFirstPage(t *testing.T) {
	vals := laid(six, bin, 4, 0, 5)
	v := view.Whole(vals)
	link.Pull(v, six, bin, 4)
	trial.WantCells(t, v, []int{64, 65}, 3, 1, 41, 0, 64, 0, 65, 0)
	vals[64], vals[65] = 0, 0
	wantList(t, v, vals, six, bin, 0, 5)
}

// P13.2: the last page is pulled: the one ahead of it has none behind; the head is not asked.
func TestPullOfTheLastPage(t *testing.T) {
	vals := laid(six, bin, 4, 0, 5)
	v := view.Whole(vals)
	link.Pull(v, six, bin, 5)
	trial.WantCells(t, v, []int{70, 71}, 40, 0, 70, 0, 71, 0)
	vals[70], vals[71] = 0, 0
	wantList(t, v, vals, six, bin, 4, 0)
}

// P13.2: a page between two is pulled: they are side by side then.
func TestPullOfAPageBetweenTwo(t *testing.T) {
	vals := laid(six, bin, 4, 0, 5)
	v := view.Whole(vals)
	link.Pull(v, six, bin, 0)
	trial.WantCells(t, v, []int{40, 41}, 64, 6, 71, 5, 40, 0, 41, 0)
	vals[40], vals[41] = 0, 0
	wantList(t, v, vals, six, bin, 4, 5)
}

// P13.2: each page of lists of each length is pulled, at each head.
func TestPullOfEachPage(t *testing.T) {
	order := []int{3, 5, 0, 4, 2, 1}
	for _, head := range heads() {
		for n := range order {
			pages := order[:n+1]
			for i, p := range pages {
				vals := laid(six, head, pages...)
				v := view.Whole(vals)
				link.Pull(v, six, head, p)
				vals[place.Next(six, p)], vals[place.Prev(six, p)] = 0, 0
				left := slices.Delete(slices.Clone(pages), i, i+1)
				wantList(t, v, vals, six, head, left...)
				wantWalk(t, v, six, head, left...)
			}
		}
	}
}

// P13.1, P13.2: of a page that is none nothing is read or put, nor is anything missing, whatever the configuration is.
func TestPagesThatAreNone(t *testing.T) {
	wantNothing := func(c api.Config, p int) {
		t.Helper()
		for _, head := range []int{bin, 13, 0, 41, -1} {
			for _, v := range []*view.View{view.Whole(make([]uint32, 200)), view.Whole(trial.Rising(200)), view.Known(200, nil)} {
				link.Push(v, c, head, p)
				link.Pull(v, c, head, p)
				trial.WantCells(t, v, nil)
			}
		}
	}
	for _, c := range slices.Concat(rights, wrongs, pageless) {
		for _, p := range noPages {
			if p < 0 || p >= c.Pages {
				wantNothing(c, p)
			}
		}
		for _, p := range []int{c.Pages, c.Pages + 1} {
			if p < 0 || p >= c.Pages {
				wantNothing(c, p)
			}
		}
	}
	for _, c := range pageless {
		wantNothing(c, 0)
		wantNothing(c, 2)
	}
}

// P13.1, P13.2: the number of all pages is no page's; the one ahead of it is the last page's.
func TestLastPage(t *testing.T) {
	for _, c := range rights {
		vals := laid(c, bin, 1)
		v := view.Whole(vals)
		link.Push(v, c, bin, c.Pages)
		link.Pull(v, c, bin, c.Pages)
		trial.WantCells(t, v, nil)
		link.Push(v, c, bin, c.Pages-1)
		wantList(t, v, vals, c, bin, c.Pages-1, 1)
		link.Pull(v, c, bin, c.Pages-1)
		wantWalk(t, v, c, bin, 1)
	}
}

// P13.1: of a configuration that is not right just the head is read and put: all cells of its pages are none.
func TestPushOfAWrongConfiguration(t *testing.T) {
	for _, c := range wrongs {
		for _, p := range []int{0, 1, 2, c.Pages/2 - 1, c.Pages - 1} {
			if p < 0 || p >= c.Pages {
				continue
			}
			for _, h := range []uint32{0, 1, 3, math.MaxUint32} {
				vals := trial.Rising(100)
				vals[bin] = h
				v := view.Whole(vals)
				link.Push(v, c, bin, p)
				trial.WantCells(t, v, []int{bin}, bin, p+1)
			}
		}
	}
}

// P13.2: of a configuration that is not right nothing is read, and just the head is put: to 0, for there is no page behind.
func TestPullOfAWrongConfiguration(t *testing.T) {
	for _, c := range wrongs {
		for _, p := range []int{0, 1, 2, c.Pages/2 - 1, c.Pages - 1} {
			if p < 0 || p >= c.Pages {
				continue
			}
			for _, v := range []*view.View{view.Whole(make([]uint32, 100)), view.Whole(trial.Rising(100)), view.Known(100, nil)} {
				link.Pull(v, c, bin, p)
				trial.WantCells(t, v, nil, bin, 0)
			}
		}
	}
}

// P13.3: of a configuration that is not right one page is told, if the head is its link, for its Next is none.
func TestWalkOfAWrongConfiguration(t *testing.T) {
	for _, c := range wrongs {
		for _, l := range []uint32{0, 1, 2, 3, 6, 7, 1024, 1025, 1026, math.MaxInt32, math.MaxUint32} {
			vals := make([]uint32, 100)
			vals[bin] = l
			v := view.Whole(vals)
			if l >= 1 && int(l) <= c.Pages {
				wantWalk(t, v, c, bin, int(l)-1)
			} else {
				wantWalk(t, v, c, bin)
			}
			trial.WantCells(t, v, []int{bin})
		}
	}
	for _, c := range pageless {
		for _, l := range []uint32{0, 1, 2, 1 << 31, math.MaxUint32 - 5, math.MaxUint32} {
			v := view.Whole([]uint32{0, 0, 0, l})
			wantWalk(t, v, c, bin)
			trial.WantCells(t, v, []int{bin})
		}
	}
}

// P13.1 to P13.3: a configuration that is not right may have very many pages. A page's link is a value of a cell: so those are asked that have one.
func TestVeryManyPages(t *testing.T) {
	for _, pages := range []int{1 << 12, 1 << 32, math.MaxInt} {
		c := api.Config{Threads: 2, Pages: pages, Shift: 10}
		for _, p := range []int{2, 1 << 11, 1 << 16, 1 << 31, math.MaxUint32 - 1} {
			if p >= pages {
				continue
			}
			v := view.Whole(make([]uint32, 100))
			link.Push(v, c, bin, p)
			trial.WantCells(t, v, []int{bin}, bin, p+1)
			wantWalk(t, v, c, bin, p)
			link.Pull(v, c, bin, p)
			trial.WantCells(t, v, []int{bin}, bin, 0)
			wantWalk(t, v, c, bin)
		}
	}
}

// P13.1: a head that leads to no page is taken on, and no Prev is put.
func TestPushWhereTheHeadLeadsToNoPage(t *testing.T) {
	for _, h := range noLinks {
		vals := laid(six, bin)
		vals[bin] = h
		v := view.Whole(vals)
		link.Push(v, six, bin, 2)
		trial.WantCells(t, v, []int{3}, 52, int(h), 53, 0, 3, 3)
		wantWalk(t, v, six, bin, 2)
	}
}

// P13.2: where Next or Prev leads to no page, nothing is put there; the head is put just where Prev is 0.
func TestPullWhereLinksLeadToNoPage(t *testing.T) {
	for _, far := range noLinks {
		vals := laid(six, bin, 4, 0, 5)
		vals[40] = far
		v := view.Whole(vals)
		link.Pull(v, six, bin, 0)
		trial.WantCells(t, v, []int{40, 41}, 64, int(far), 40, 0, 41, 0)

		vals = laid(six, bin, 4, 0, 5)
		vals[41] = far
		v = view.Whole(vals)
		link.Pull(v, six, bin, 0)
		trial.WantCells(t, v, []int{40, 41}, 71, int(far), 40, 0, 41, 0)

		vals = laid(six, bin, 4, 0, 5)
		vals[40], vals[41] = far, far-1
		v = view.Whole(vals)
		link.Pull(v, six, bin, 0)
		if far == 7 {
			trial.WantCells(t, v, []int{40, 41}, 70, int(far), 40, 0, 41, 0)
		} else {
			trial.WantCells(t, v, []int{40, 41}, 40, 0, 41, 0)
		}

		vals = laid(six, bin, 4, 0, 5)
		vals[64] = far
		v = view.Whole(vals)
		link.Pull(v, six, bin, 4)
		trial.WantCells(t, v, []int{64, 65}, 3, int(far), 64, 0, 65, 0)
	}
}

// P13.1, P13.2: a page that leads to itself: each cell is put several times, and stands where it was put first, with what it was put to last.
func TestPageThatLeadsToItself(t *testing.T) {
	vals := laid(six, bin, 2)
	v := view.Whole(vals)
	link.Push(v, six, bin, 2)
	trial.WantCells(t, v, []int{3}, 52, 3, 53, 3, 3, 3)
	wantWalk(t, v, six, bin, 2, 2, 2, 2, 2, 2)
	link.Pull(v, six, bin, 2)
	trial.WantCells(t, v, []int{3}, 52, 0, 53, 0, 3, 3)

	vals = laid(six, bin, 2)
	vals[52], vals[53] = 3, 3
	v = view.Whole(vals)
	link.Pull(v, six, bin, 2)
	trial.WantCells(t, v, []int{52, 53}, 52, 0, 53, 0)
}

// P13.1, P13.2: a head may be any cell, also one of the page itself, of one beside it, or none: then nothing is got of it, and nothing is put there.
func TestAnyHead(t *testing.T) {
	var all []int
	for head := -3; head < place.Cells(six)+3; head++ {
		all = append(all, head)
	}
	for _, head := range append(all, noCells...) {
		for p := range six.Pages {
			for what := range walked {
				vals := laid(six, bin, 4, 0, 5)
				for _, val := range []uint32{0, uint32(p + 1), 3, 6, 7, 1 << 31} {
					if head >= 0 && head < len(vals) {
						vals[head] = val
					}
					plain{view.Whole(vals), six}.wantDone(t, view.Whole(vals), what, head, p)
				}
			}
		}
	}
}

// P13.1, P13.2: at a head that is no cell nothing is got, and nothing is put there.
func TestHeadThatIsNoCell(t *testing.T) {
	for _, head := range append([]int{place.Cells(six), place.Cells(six) + 1}, noCells...) {
		v := view.Whole(laid(six, bin, 4, 0, 5))
		link.Push(v, six, head, 2)
		trial.WantCells(t, v, nil, 52, 0, 53, 0)
		v = view.Whole(laid(six, bin, 4, 0, 5))
		link.Pull(v, six, head, 4)
		trial.WantCells(t, v, []int{64, 65}, 41, 0, 64, 0, 65, 0)
		v = view.Whole(laid(six, bin, 4, 0, 5))
		wantWalk(t, v, six, head)
		trial.WantCells(t, v, nil)
	}
}

// P13.1 to P13.3: a View that knows less tells what it misses, as the reads come; from there on nothing is put.
func TestMissing(t *testing.T) {
	vals := laid(six, bin, 4, 0, 5)
	trial.WantReads(t, vals, func(v *view.View) { link.Push(v, six, bin, 2) }, []int{3})
	trial.WantReads(t, vals, func(v *view.View) { link.Pull(v, six, bin, 0) }, []int{40, 41})
	trial.WantReads(t, vals, func(v *view.View) { link.Pull(v, six, bin, 4) }, []int{64, 65})
	trial.WantReads(t, vals, func(v *view.View) { link.Walk(v, six, bin) }, []int{3, 64, 40, 70})
}

// P13.3: of a View that knows less the pages up to the missing cell are told.
func TestWalkUpToTheMissingCell(t *testing.T) {
	vals := laid(six, bin, 4, 0, 5)
	pages := []int{4, 0, 5}
	for n, i := range []int{bin, 64, 40, 70} {
		v := trial.Lacking(vals, i)
		wantWalk(t, v, six, bin, pages[:n]...)
		if got := v.Missing(); got != i {
			t.Fatalf("Missing() = %d, not %d", got, i)
		}
		wantWalk(t, v, six, bin)
	}
}

// P13.1 to P13.3: nil, and a View without cells, have no lists.
func TestViewsWithoutCells(t *testing.T) {
	for _, v := range []*view.View{nil, new(view.View), view.Whole(nil), view.Known(0, nil), view.Known(-5, nil)} {
		for _, c := range slices.Concat(rights, wrongs, pageless) {
			for _, p := range append([]int{0, 2}, noPages...) {
				for _, head := range append([]int{0, bin}, noCells...) {
					link.Push(v, c, head, p)
					link.Pull(v, c, head, p)
					wantWalk(t, v, c, head)
				}
			}
		}
		trial.WantCells(t, v, nil)
	}
}

// P13.1 to P13.3: any heads, any pages, any configurations: it ends, and does not panic.
func TestAnyArguments(t *testing.T) {
	vals := laid(six, bin, 4, 0, 5)
	for _, c := range slices.Concat(rights, wrongs, pageless) {
		for _, p := range append([]int{0, 2}, noPages...) {
			for _, head := range append([]int{0, bin, 13, 41}, noCells...) {
				v := view.Whole(vals)
				link.Push(v, c, head, p)
				link.Walk(v, c, head)
				link.Pull(v, c, head, p)
				link.Walk(v, c, head)
			}
		}
	}
}

// P13.3: the pages of lists of no, one, some and all pages, in their order; Next of the last one is read, too, and nothing is put.
func TestWalk(t *testing.T) {
	order := []int{3, 5, 0, 4, 2, 1}
	for _, head := range heads() {
		for n := range len(order) + 1 {
			v := view.Whole(laid(six, head, order[:n]...))
			wantWalk(t, v, six, head, order[:n]...)
			reads := []int{head}
			for _, p := range order[:n] {
				reads = append(reads, place.Next(six, p))
			}
			trial.WantCells(t, v, reads)
		}
	}
	for _, c := range rights {
		for p := range c.Pages {
			v := view.Whole(laid(c, bin, p))
			wantWalk(t, v, c, bin, p)
			trial.WantCells(t, v, []int{bin, place.Next(c, p)})
		}
	}
}

// P13.3: a list that runs in a circle ends behind as many pages as there are, also where the circle does not begin at the first one.
func TestWalkOfACircle(t *testing.T) {
	for _, c := range rights {
		for _, pages := range [][]int{{0}, {c.Pages - 1}, {2, 0}, {3, 1, 0}, {0, 1, 2, 3}} {
			for back := range pages {
				vals := laid(c, bin, pages...)
				last := pages[len(pages)-1]
				vals[place.Next(c, last)] = uint32(pages[back] + 1)
				var want []int
				for at := 0; len(want) < c.Pages; at++ {
					if at == len(pages) {
						at = back
					}
					want = append(want, pages[at])
				}
				v := view.Whole(vals)
				wantWalk(t, v, c, bin, want...)
				reads := []int{bin}
				for _, p := range pages {
					reads = append(reads, place.Next(c, p))
				}
				trial.WantCells(t, v, reads)
			}
		}
	}
}

// P13.3: a circle of all pages is gone through once.
func TestWalkOfACircleOfAllPages(t *testing.T) {
	for _, c := range rights {
		var pages []int
		for p := range c.Pages {
			pages = append(pages, c.Pages-1-p)
		}
		vals := laid(c, bin, pages...)
		vals[place.Next(c, 0)] = uint32(c.Pages)
		wantWalk(t, view.Whole(vals), c, bin, pages...)
	}
}

// P13.3: a link that leads to no page ends the list, at the head and behind any page.
func TestWalkToNoPage(t *testing.T) {
	pages := []int{4, 0, 5}
	for _, far := range noLinks {
		vals := laid(six, bin, pages...)
		vals[bin] = far
		v := view.Whole(vals)
		wantWalk(t, v, six, bin)
		trial.WantCells(t, v, []int{bin})
		reads := []int{bin}
		for i, p := range pages {
			vals = laid(six, bin, pages...)
			vals[place.Next(six, p)] = far
			v = view.Whole(vals)
			wantWalk(t, v, six, bin, pages[:i+1]...)
			reads = append(reads, place.Next(six, p))
			trial.WantCells(t, v, reads)
		}
	}
}

// P13.3: what Prev tells is not asked, and what was put is walked.
func TestWalkOfWhatWasPut(t *testing.T) {
	vals := make([]uint32, place.Cells(six))
	vals[bin] = 2
	v := view.Whole(vals)
	v.Put(place.Next(six, 1), 4)
	v.Put(place.Next(six, 3), 6)
	v.Put(place.Prev(six, 3), 6)
	wantWalk(t, v, six, bin, 1, 3, 5)
	trial.WantCells(t, v, []int{bin, 70}, 46, 4, 58, 6, 59, 6)
}

// P13.3: what was told is one's own.
func TestWalksAreApart(t *testing.T) {
	v := view.Whole(laid(six, bin, 4, 0, 5))
	link.Walk(v, six, bin)[0] = 9
	wantWalk(t, v, six, bin, 4, 0, 5)
}

// P13.1 to P13.3: values by chance, of links that lead to pages, and to none: what is read, put, missing and told is what the chapter's lines say.
func TestAnyValues(t *testing.T) {
	for seed := range 4000 {
		by := trial.Chance(seed)
		c := six
		switch by.Next(8) {
		case 0:
			c = wrongs[by.Next(len(wrongs))]
		case 1:
			c = rights[by.Next(4)]
		}
		// Fewer cells than a configuration has, and more, may be those of a View.
		n := place.Cells(six) + by.Pick(0, 0, 0, -9, -30, 20)
		vals := make([]uint32, n)
		for i := range vals {
			vals[i] = by.Link(six.Pages)
		}
		v, as := by.Twins(vals)
		for range 1 + by.Next(8) {
			head := by.Pick(bin, bin, bin, 13, by.Next(n), by.Next(n), -1, n)
			p := by.Pick(by.Next(six.Pages), by.Next(six.Pages), by.Next(six.Pages), -1, 6, 7)
			plain{as, c}.wantDone(t, v, kind(by.Next(int(kinds))), head, p)
		}
	}
}

// heap is a heap of c: its values, and of each of its lists the pages, in their order. Its lists are laid by Push, each page ahead of all others.
type heap struct {
	c     api.Config
	v     *view.View
	lists map[int][]int
}

// pieceOf is the n-th piece of the heaps of these tests, of at most so many pages: by turns a slab and a free span, so that no two free ones are side by side.
func pieceOf(n, most int) trial.Piece {
	k := n / 2 % 9
	switch {
	case n%2 == 1:
		return trial.Free(min(1+n*7%12, most))
	case n%5 == 4:
		return trial.Slab(k, trial.Full(k), 0)
	case n%7 == 6:
		return trial.Used(1)
	}
	return trial.Slab(k, 1, 0)
}

// heapOf is the heap of c.
func heapOf(t *testing.T, c api.Config) heap {
	t.Helper()
	var pieces []trial.Piece
	for p := 0; p < c.Pages; p += pieces[len(pieces)-1].Len {
		pieces = append(pieces, pieceOf(len(pieces), c.Pages-p))
	}
	h := heap{c, view.Whole(trial.Lay(c, pieces...).Vals), map[int][]int{}}
	for _, head := range heads() {
		h.v.Put(head, 0)
	}
	p := 0
	for _, x := range pieces {
		if head := x.List(); head >= 0 {
			h.push(head, p)
		}
		p += x.Len
	}
	if n, ok := audit.Check(c, h.v.Vals()); !ok {
		t.Fatalf("of %v the rule %d does not hold", c, n)
	}
	return h
}

// push puts a page into a list, ahead of all others.
func (h heap) push(head, p int) {
	link.Push(h.v, h.c, head, p)
	h.lists[head] = slices.Insert(h.lists[head], 0, p)
}

// pull takes a page out of a list.
func (h heap) pull(head, p int) {
	link.Pull(h.v, h.c, head, p)
	h.lists[head] = slices.DeleteFunc(h.lists[head], func(q int) bool { return q == p })
}

// outside is the pages that are in no list.
func (h heap) outside() []int {
	in := map[int]bool{}
	for _, pages := range h.lists {
		for _, p := range pages {
			in[p] = true
		}
	}
	var l []int
	for p := range h.c.Pages {
		if !in[p] {
			l = append(l, p)
		}
	}
	return l
}

// wantLists asks whether all lists have their pages, in their order, both ways, the pages of none have no links, and no other cell is another one than it was.
func (h heap) wantLists(t *testing.T, what string, was []uint32) {
	t.Helper()
	want := trial.Heap{Config: h.c, Vals: slices.Clone(was)}
	for p := range h.c.Pages {
		want.Vals[place.Next(h.c, p)], want.Vals[place.Prev(h.c, p)] = 0, 0
	}
	for _, head := range heads() {
		want.Relink(head, h.lists[head]...)
		wantWalk(t, h.v, h.c, head, h.lists[head]...)
	}
	if got := h.v.Vals(); !slices.Equal(got, want.Vals) {
		t.Fatalf("%s: the values of %v are %v, not %v", what, h.c, got, want.Vals)
	}
}

// heaps are configurations of heaps, without and with lists of several pages.
var heaps = []api.Config{
	{Threads: 1, Pages: 4, Shift: 10}, {Threads: 2, Pages: 20, Shift: 10}, {Threads: 16, Pages: 130, Shift: 20},
}

// P13.4: the lists of a heap that Push laid are those of a heap, each page ahead of those that were there.
func TestListsOfHeaps(t *testing.T) {
	for _, c := range append(heaps, rights...) {
		h := heapOf(t, c)
		h.wantLists(t, "laid", h.v.Vals())
	}
}

// P13.4: behind Pull of each page of a heap's lists it is not there, and the others are in their order; behind Push it is ahead of them; no other list turns by it.
func TestPullAndPushOfEachPageOfAHeap(t *testing.T) {
	for _, c := range heaps {
		h := heapOf(t, c)
		was := h.v.Vals()
		for _, head := range heads() {
			for _, p := range slices.Clone(h.lists[head]) {
				h.pull(head, p)
				h.wantLists(t, "Pull", was)
				h.push(head, p)
				h.wantLists(t, "Push", was)
				if n, ok := audit.Check(c, h.v.Vals()); !ok {
					t.Fatalf("of %v the rule %d does not hold", c, n)
				}
			}
		}
	}
}

// P13.4: pulling what was pushed gives the list back, of each page that is in none, at each head; so do pulls of several, in any order.
func TestPullOfWhatWasPushed(t *testing.T) {
	for _, c := range heaps {
		h := heapOf(t, c)
		was := h.v.Vals()
		out := h.outside()
		for _, head := range heads() {
			for _, p := range out {
				h.push(head, p)
				h.wantLists(t, "Push", was)
				h.pull(head, p)
				if got := h.v.Vals(); !slices.Equal(got, was) {
					t.Fatalf("the values of %v are %v, not %v", c, got, was)
				}
			}
			for _, p := range out {
				h.push(head, p)
			}
			for i := range out {
				// By turns the first, the last, and one between.
				p := out[(i*3+1)%len(out)]
				if len(out)%3 == 0 {
					p = out[i]
				}
				h.pull(head, p)
				h.wantLists(t, "Pull", was)
			}
			if got := h.v.Vals(); !slices.Equal(got, was) {
				t.Fatalf("the values of %v are %v, not %v", c, got, was)
			}
		}
	}
}

// P13.4: long rows of pushes and pulls by chance, with pages that go from list to list.
func TestLongRows(t *testing.T) {
	for seed, c := range heaps {
		by := trial.Chance(seed)
		h := heapOf(t, c)
		was := h.v.Vals()
		for turn := range 600 {
			head := by.Pick(heads()...)
			out := h.outside()
			if pages := h.lists[head]; len(pages) > 0 && (len(out) == 0 || by.Next(2) == 0) {
				h.pull(head, by.Pick(pages...))
			} else if len(out) > 0 {
				h.push(head, by.Pick(out...))
			}
			h.wantLists(t, fmt.Sprintf("turn %d", turn), was)
		}
	}
}
