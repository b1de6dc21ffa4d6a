package audit_test

import (
	"math/bits"
	"slices"

	"nacre/api"
	"nacre/place"
)

// The numbers of the document are written out: so the tests hold the limits, too.
const (
	bins    = 11
	classes = 9
	roots   = 8
)

// slotsOf is how many slots a slab of each class has, as chapter 5 has it.
var slotsOf = [classes]int{32, 21, 16, 10, 8, 5, 4, 3, 2}

// slotSize is how many bytes a slot of the class k has.
func slotSize(shift, k int) int64 {
	return int64(1) << shift / int64(slotsOf[k]) / 16 * 16
}

// full is the bits of all slots of the class k.
func full(k int) uint32 {
	all := uint32(0)
	for s := range slotsOf[k] {
		all |= 1 << s
	}
	return all
}

// piece is a span of a heap that a test lays: what it is, how many pages it has, and of a slab its class, and the bits of its slots.
type piece struct {
	kind, n, class int
	taken, live    uint32
}

func free(n int) piece { return piece{kind: api.InFree, n: n} }

func used(n int) piece { return piece{kind: api.InUsed, n: n} }

func slab(k int, taken, live uint32) piece {
	return piece{kind: api.InSlab, n: 1, class: k, taken: taken, live: live}
}

// value is the value of the piece's info, as chapter 9 has it.
func (p piece) value() uint32 {
	return uint32(p.kind) | uint32(p.n)<<4 | uint32(p.class)<<16
}

// list is the cell of the list in which the piece belongs; -1, if it belongs in none.
func (p piece) list() int {
	switch {
	case p.kind == api.InFree:
		return 2 + bits.Len(uint(p.n)) - 1
	case p.kind == api.InSlab && p.taken&full(p.class) != full(p.class):
		return 13 + p.class
	}
	return -1
}

// laid is values of a heap that a test laid.
type laid struct {
	c api.Config
	v []uint32
}

// lay lays pieces from the page 0 on; pages behind them are left without a span. Each piece is put into its list, by turns ahead of all others and behind them, so that lists are in no plain order.
func lay(c api.Config, pieces ...piece) laid {
	l := laid{c, make([]uint32, place.Cells(c))}
	lists := map[int][]int{}
	p := 0
	for turn, x := range pieces {
		l.v[place.Info(c, p)] = x.value()
		l.v[place.Foot(c, p+x.n-1)] = uint32(p) + 1
		l.v[place.Slots(c, p)], l.v[place.Taken(c, p)] = x.live, x.taken
		switch x.kind {
		case api.InFree:
			l.v[place.Free] += uint32(x.n)
		case api.InUsed:
			l.v[place.Live]++
		}
		l.v[place.Live] += uint32(bits.OnesCount32(x.live))
		if head := x.list(); head >= 0 && turn%3 == 0 {
			lists[head] = slices.Insert(lists[head], 0, p)
		} else if head >= 0 {
			lists[head] = append(lists[head], p)
		}
		p += x.n
	}
	for head, pages := range lists {
		l.relink(head, pages)
	}
	return l
}

// pages is the pages of a list, which ends.
func (l laid) pages(head int) []int {
	var pages []int
	for at := l.v[head]; at != 0; at = l.v[place.Next(l.c, int(at)-1)] {
		pages = append(pages, int(at)-1)
	}
	return pages
}

// relink makes a list of these pages.
func (l laid) relink(head int, pages []int) {
	l.v[head] = 0
	ahead := uint32(0)
	for i, p := range pages {
		if i == 0 {
			l.v[head] = uint32(p) + 1
		} else {
			l.v[place.Next(l.c, pages[i-1])] = uint32(p) + 1
		}
		l.v[place.Prev(l.c, p)], l.v[place.Next(l.c, p)] = ahead, 0
		ahead = uint32(p) + 1
	}
}

// push puts a page into a list, ahead of all others.
func (l laid) push(head, p int) {
	l.relink(head, append([]int{p}, l.pages(head)...))
}

// put puts a page into a list, behind all others.
func (l laid) put(head, p int) {
	l.relink(head, append(l.pages(head), p))
}

// pull takes a page out of a list.
func (l laid) pull(head, p int) {
	pages := l.pages(head)
	l.relink(head, slices.DeleteFunc(pages, func(q int) bool { return q == p }))
	l.v[place.Next(l.c, p)], l.v[place.Prev(l.c, p)] = 0, 0
}

// live sets the Slots of a page, and counts them among the live blocks.
func (l laid) live(p int, slots uint32) {
	cell := place.Slots(l.c, p)
	l.v[place.Live] += uint32(bits.OnesCount32(slots) - bits.OnesCount32(l.v[cell]))
	l.v[cell] = slots
}

// copied is laid values of their own.
func (l laid) copied() laid {
	return laid{l.c, slices.Clone(l.v)}
}

// partsOf is what the bytes of the pages of such pieces are.
func partsOf(c api.Config, pieces ...piece) []api.Part {
	var parts []api.Part
	page := int64(1) << c.Shift
	a := page
	for _, x := range pieces {
		end := a + int64(x.n)*page
		switch x.kind {
		case api.InFree:
			parts = append(parts, api.Part{Kind: api.PtFree, Addr: a, Size: end - a})
		case api.InUsed:
			parts = append(parts, api.Part{Kind: api.PtLive, Addr: a, Size: end - a})
		default:
			for s := range slotsOf[x.class] {
				kind := api.PtSlot
				if x.live&(1<<s) != 0 {
					kind = api.PtLive
				} else if x.taken&(1<<s) != 0 {
					kind = api.PtPocket
				}
				parts = append(parts, api.Part{Kind: kind, Addr: a, Size: slotSize(c.Shift, x.class)})
				a += slotSize(c.Shift, x.class)
			}
			if a < end {
				parts = append(parts, api.Part{Kind: api.PtSlack, Addr: a, Size: end - a})
			}
		}
		a = end
	}
	return parts
}

// liveOf is the live blocks of such pieces.
func liveOf(c api.Config, pieces ...piece) []api.Block {
	var live []api.Block
	for _, p := range partsOf(c, pieces...) {
		if p.Kind == api.PtLive {
			live = append(live, api.Block{Addr: p.Addr, Size: p.Size})
		}
	}
	return live
}

// found is a piece, and the page at which it begins.
type found struct {
	piece
	at int
}

// reading is values of a right configuration, as many as it has cells, read rule by rule.
type reading struct {
	laid
	spans []found
	whole bool // whether the spans go up to the end
}

// read reads the spans of values, up to where none begins.
func read(l laid) reading {
	r := reading{laid: l}
	p := 0
	for p < l.c.Pages {
		v := l.v[place.Info(l.c, p)]
		x := piece{kind: int(v & 15), n: int(v >> 4 & 4095), class: int(v >> 16 & 15)}
		isSpan := (x.kind == 1 || x.kind == 2) && x.n >= 1 && x.n <= 1024 && x.class == 0
		isSlab := x.kind == 3 && x.n == 1 && x.class < classes
		if v>>20 != 0 || !isSpan && !isSlab || p+x.n > l.c.Pages {
			return r
		}
		x.taken, x.live = l.v[place.Taken(l.c, p)], l.v[place.Slots(l.c, p)]
		r.spans = append(r.spans, found{x, p})
		p += x.n
	}
	r.whole = true
	return r
}

// rule2 holds, if spans go up to the end, and no page but their first ones has an Info.
func (r reading) rule2() bool {
	infos := map[int]uint32{}
	for _, s := range r.spans {
		infos[s.at] = s.value()
	}
	for p := range r.c.Pages {
		if r.v[place.Info(r.c, p)] != infos[p] {
			return false
		}
	}
	return r.whole
}

// rule3 holds, if the Feet are those of the spans' last pages.
func (r reading) rule3() bool {
	feet := map[int]uint32{}
	for _, s := range r.spans {
		feet[s.at+s.n-1] = uint32(s.at) + 1
	}
	for p := range r.c.Pages {
		if r.v[place.Foot(r.c, p)] != feet[p] {
			return false
		}
	}
	return true
}

// rule4 holds, if of two spans side by side one is not free.
func (r reading) rule4() bool {
	for i := 1; i < len(r.spans); i++ {
		if r.spans[i-1].kind == api.InFree && r.spans[i].kind == api.InFree {
			return false
		}
	}
	return true
}

// rule5 holds, if just slabs have slots that are taken, and just such slots are live.
func (r reading) rule5() bool {
	may := map[int]uint32{}
	for _, s := range r.spans {
		if s.kind == api.InSlab {
			may[s.at] = full(s.class)
			if s.taken == 0 {
				return false
			}
		}
	}
	for p := range r.c.Pages {
		taken, live := r.v[place.Taken(r.c, p)], r.v[place.Slots(r.c, p)]
		if taken|may[p] != may[p] || live|taken != taken {
			return false
		}
	}
	return true
}

// walk is the pages that a list comes to, till it ends, leads to no page, or comes to one again; and whether it ends, and each Prev is right.
func (r reading) walk(head int) (map[int]bool, bool) {
	seen, right := map[int]bool{}, true
	ahead := uint32(0)
	for at := r.v[head]; at != 0; {
		p := int(at) - 1
		if p >= r.c.Pages || seen[p] {
			return seen, false
		}
		seen[p] = true
		right = right && r.v[place.Prev(r.c, p)] == ahead
		ahead, at = at, r.v[place.Next(r.c, p)]
	}
	return seen, right
}

// lists holds, if the cells from one on, so many, are lists of just what belongs there.
func (r reading) lists(from, many int) bool {
	for head := from; head < from+many; head++ {
		seen, ok := r.walk(head)
		for _, s := range r.spans {
			if s.list() == head && !seen[s.at] {
				return false
			}
			if s.list() == head {
				delete(seen, s.at)
			}
		}
		if !ok || len(seen) != 0 {
			return false
		}
	}
	return true
}

func (r reading) rule6() bool { return r.lists(2, bins) }

func (r reading) rule7() bool { return r.lists(13, classes) }

// rule8 holds, if the pages to which no list comes have no links.
func (r reading) rule8() bool {
	in := map[int]bool{}
	for head := 2; head < 13+classes; head++ {
		seen, _ := r.walk(head)
		for p := range seen {
			in[p] = true
		}
	}
	for p := range r.c.Pages {
		if !in[p] && (r.v[place.Next(r.c, p)] != 0 || r.v[place.Prev(r.c, p)] != 0) {
			return false
		}
	}
	return true
}

// rule9 holds, if the counts are right.
func (r reading) rule9() bool {
	var free, live uint32
	for _, s := range r.spans {
		if s.kind == api.InFree {
			free += uint32(s.n)
		}
		if s.kind == api.InUsed {
			live++
		}
	}
	for p := range r.c.Pages {
		live += uint32(bits.OnesCount32(r.v[place.Slots(r.c, p)]))
	}
	return r.v[place.Free] == free && r.v[place.Live] == live
}

// rule10 holds, if the roots name nothing, or live blocks.
func (r reading) rule10() bool {
	page := int64(1) << r.c.Shift
	begins := map[int64]bool{0: true}
	for _, s := range r.spans {
		a := int64(s.at+1) * page
		if s.kind == api.InUsed {
			begins[a] = true
		}
		for i := range 32 {
			if s.kind == api.InSlab && s.live&(1<<i) != 0 {
				begins[a+int64(i)*slotSize(r.c.Shift, s.class)] = true
			}
		}
	}
	for i := range roots {
		if !begins[int64(r.v[place.Root(i)])] {
			return false
		}
	}
	return true
}

// broken is the numbers of the rules from 2 on that do not hold, each asked by itself, as the document says it.
func broken(l laid) []int {
	r := read(l)
	var numbers []int
	for i, holds := range []bool{
		r.rule2(), r.rule3(), r.rule4(), r.rule5(), r.rule6(), r.rule7(), r.rule8(), r.rule9(), r.rule10(),
	} {
		if !holds {
			numbers = append(numbers, i+2)
		}
	}
	return numbers
}

// chance is a row of numbers that looks like one by chance.
type chance uint32

// next is the next number, below n.
func (c *chance) next(n int) int {
	*c = *c*1664525 + 1013904223
	return int(*c>>16) % n
}

// bits is the next 32 bits.
func (c *chance) bits() uint32 {
	return uint32(c.next(1<<16))<<16 | uint32(c.next(1<<16))
}

// pieces is pieces that fill so many pages, of which no two free ones are side by side.
func (c *chance) pieces(pages int) []piece {
	var l []piece
	for pages > 0 {
		var x piece
		switch what := c.next(4); {
		case what == 0 && (len(l) == 0 || l[len(l)-1].kind != api.InFree):
			x = free(1 + c.next(min(pages, 9)))
		case what == 1:
			x = used(1 + c.next(min(pages, 5)))
		default:
			x = c.slab(c.next(classes))
		}
		l = append(l, x)
		pages -= x.n
	}
	return l
}

// slab is a slab of the class k, full or not.
func (c *chance) slab(k int) piece {
	taken := c.bits() & full(k)
	if taken == 0 || c.next(3) == 0 {
		taken = full(k)
	}
	live := c.bits() & taken
	if c.next(3) == 0 {
		live = taken
	}
	return slab(k, taken, live)
}
