package audit_test

import (
	"math/bits"

	"nacre/api"
	"nacre/place"
	"nacre/trial"
)

// The numbers of the document are written out: so the tests hold the limits, too.
const (
	bins    = 11
	classes = 9
	roots   = 8
)

// slotsOf is how many slots a slab of each class has, as chapter 5 has it.
var slotsOf = [classes]int{32, 21, 16, 10, 8, 5, 4, 3, 2}

// slotSize is how many bytes a slot of the class k has.
func slotSize(shift, k int) int64 {
	return int64(1) << shift / int64(slotsOf[k]) / 16 * 16
}

// full is the bits of all slots of the class k.
func full(k int) uint32 {
	all := uint32(0)
	for s := range slotsOf[k] {
		all |= 1 << s
	}
	return all
}

// partsOf is what the bytes of the pages of such pieces are.
func partsOf(c api.Config, pieces ...trial.Piece) []api.Part {
	var parts []api.Part
	page := int64(1) << c.Shift
	a := page
	for _, x := range pieces {
		end := a + int64(x.Len)*page
		switch x.Kind {
		case api.InFree:
			parts = append(parts, api.Part{Kind: api.PtFree, Addr: a, Size: end - a})
		case api.InUsed:
			parts = append(parts, api.Part{Kind: api.PtLive, Addr: a, Size: end - a})
		default:
			for s := range slotsOf[x.Class] {
				kind := api.PtSlot
				if x.Live&(1<<s) != 0 {
					kind = api.PtLive
				} else if x.Taken&(1<<s) != 0 {
					kind = api.PtPocket
				}
				parts = append(parts, api.Part{Kind: kind, Addr: a, Size: slotSize(c.Shift, x.Class)})
				a += slotSize(c.Shift, x.Class)
			}
			if a < end {
				parts = append(parts, api.Part{Kind: api.PtSlack, Addr: a, Size: end - a})
			}
		}
		a = end
	}
	return parts
}

// liveOf is the live blocks of such pieces.
func liveOf(c api.Config, pieces ...trial.Piece) []api.Block {
	var live []api.Block
	for _, p := range partsOf(c, pieces...) {
		if p.Kind == api.PtLive {
			live = append(live, api.Block{Addr: p.Addr, Size: p.Size})
		}
	}
	return live
}

// found is a piece, and the page at which it begins.
type found struct {
	trial.Piece
	at int
}

// reading is values of a right configuration, as many as it has cells, read rule by rule.
type reading struct {
	trial.Heap
	spans []found
	whole bool // whether the spans go up to the end
}

// read reads the spans of values, up to where none begins.
func read(l trial.Heap) reading {
	r := reading{Heap: l}
	p := 0
	for p < l.Pages {
		v := l.Vals[place.Info(l.Config, p)]
		x := trial.Piece{Info: api.Info{Kind: int(v & 15), Len: int(v >> 4 & 4095), Class: int(v >> 16 & 15)}}
		isSpan := (x.Kind == 1 || x.Kind == 2) && x.Len >= 1 && x.Len <= 1024 && x.Class == 0
		isSlab := x.Kind == 3 && x.Len == 1 && x.Class < classes
		if v>>20 != 0 || !isSpan && !isSlab || p+x.Len > l.Pages {
			return r
		}
		x.Taken, x.Live = l.Vals[place.Taken(l.Config, p)], l.Vals[place.Slots(l.Config, p)]
		r.spans = append(r.spans, found{x, p})
		p += x.Len
	}
	r.whole = true
	return r
}

// rule2 holds, if spans go up to the end, and no page but their first ones has an Info.
func (r reading) rule2() bool {
	infos := map[int]uint32{}
	for _, s := range r.spans {
		infos[s.at] = s.Value()
	}
	for p := range r.Pages {
		if r.Vals[place.Info(r.Config, p)] != infos[p] {
			return false
		}
	}
	return r.whole
}

// rule3 holds, if the Feet are those of the spans' last pages.
func (r reading) rule3() bool {
	feet := map[int]uint32{}
	for _, s := range r.spans {
		feet[s.at+s.Len-1] = uint32(s.at) + 1
	}
	for p := range r.Pages {
		if r.Vals[place.Foot(r.Config, p)] != feet[p] {
			return false
		}
	}
	return true
}

// rule4 holds, if of two spans side by side one is not free.
func (r reading) rule4() bool {
	for i := 1; i < len(r.spans); i++ {
		if r.spans[i-1].Kind == api.InFree && r.spans[i].Kind == api.InFree {
			return false
		}
	}
	return true
}

// rule5 holds, if just slabs have slots that are taken, and just such slots are live.
func (r reading) rule5() bool {
	may := map[int]uint32{}
	for _, s := range r.spans {
		if s.Kind == api.InSlab {
			may[s.at] = full(s.Class)
			if s.Taken == 0 {
				return false
			}
		}
	}
	for p := range r.Pages {
		taken, live := r.Vals[place.Taken(r.Config, p)], r.Vals[place.Slots(r.Config, p)]
		if taken|may[p] != may[p] || live|taken != taken {
			return false
		}
	}
	return true
}

// walk is the pages that a list comes to, till it ends, leads to no page, or comes to one again; and whether it ends, and each Prev is right.
func (r reading) walk(head int) (map[int]bool, bool) {
	seen, right := map[int]bool{}, true
	ahead := uint32(0)
	for at := r.Vals[head]; at != 0; {
		p := int(at) - 1
		if p >= r.Pages || seen[p] {
			return seen, false
		}
		seen[p] = true
		right = right && r.Vals[place.Prev(r.Config, p)] == ahead
		ahead, at = at, r.Vals[place.Next(r.Config, p)]
	}
	return seen, right
}

// lists holds, if the cells from one on, so many, are lists of just what belongs there.
func (r reading) lists(from, many int) bool {
	for head := from; head < from+many; head++ {
		seen, ok := r.walk(head)
		for _, s := range r.spans {
			if s.List() == head && !seen[s.at] {
				return false
			}
			if s.List() == head {
				delete(seen, s.at)
			}
		}
		if !ok || len(seen) != 0 {
			return false
		}
	}
	return true
}

func (r reading) rule6() bool { return r.lists(2, bins) }

func (r reading) rule7() bool { return r.lists(13, classes) }

// rule8 holds, if the pages to which no list comes have no links.
func (r reading) rule8() bool {
	in := map[int]bool{}
	for head := 2; head < 13+classes; head++ {
		seen, _ := r.walk(head)
		for p := range seen {
			in[p] = true
		}
	}
	for p := range r.Pages {
		if !in[p] && (r.Vals[place.Next(r.Config, p)] != 0 || r.Vals[place.Prev(r.Config, p)] != 0) {
			return false
		}
	}
	return true
}

// rule9 holds, if the counts are right.
func (r reading) rule9() bool {
	var free, live uint32
	for _, s := range r.spans {
		if s.Kind == api.InFree {
			free += uint32(s.Len)
		}
		if s.Kind == api.InUsed {
			live++
		}
	}
	for p := range r.Pages {
		live += uint32(bits.OnesCount32(r.Vals[place.Slots(r.Config, p)]))
	}
	return r.Vals[place.Free] == free && r.Vals[place.Live] == live
}

// rule10 holds, if the roots name nothing, or live blocks.
func (r reading) rule10() bool {
	page := int64(1) << r.Shift
	begins := map[int64]bool{0: true}
	for _, s := range r.spans {
		a := int64(s.at+1) * page
		if s.Kind == api.InUsed {
			begins[a] = true
		}
		for i := range 32 {
			if s.Kind == api.InSlab && s.Live&(1<<i) != 0 {
				begins[a+int64(i)*slotSize(r.Shift, s.Class)] = true
			}
		}
	}
	for i := range roots {
		if !begins[int64(r.Vals[place.Root(i)])] {
			return false
		}
	}
	return true
}

// broken is the numbers of the rules from 2 on that do not hold, each asked by itself, as the document says it.
func broken(l trial.Heap) []int {
	r := read(l)
	var numbers []int
	for i, holds := range []bool{
		r.rule2(), r.rule3(), r.rule4(), r.rule5(), r.rule6(), r.rule7(), r.rule8(), r.rule9(), r.rule10(),
	} {
		if !holds {
			numbers = append(numbers, i+2)
		}
	}
	return numbers
}
