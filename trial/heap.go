package trial

import (
	"slices"

	"nacre/api"
	"nacre/class"
	"nacre/half"
	"nacre/place"
)

// Piece is a span of a heap that a test lays: what begins at its first page, and of a slab the bits of its slots.
type Piece struct {
	api.Info
	Taken, Live uint32
}

// Free is a free span of n pages.
func Free(n int) Piece { return Piece{Info: api.Info{Kind: api.InFree, Len: n}} }

// Used is a live block of n pages.
func Used(n int) Piece { return Piece{Info: api.Info{Kind: api.InUsed, Len: n}} }

// Slab is a slab of the class k.
func Slab(k int, taken, live uint32) Piece {
	return Piece{api.Info{Kind: api.InSlab, Len: 1, Class: k}, taken, live}
}

// Full is the bits of all slots of the class k.
func Full(k int) uint32 {
	// Of 32 the 1 is moved out, and 0 less 1 is all bits.
	return uint32(1)<<class.Slots(k) - 1
}

// Value is the value of the piece's info, as chapter 9 has it, also where it may not be.
func (p Piece) Value() uint32 {
	return uint32(p.Kind) | uint32(p.Len)<<4 | uint32(p.Class)<<16
}

// List is the cell of the list in which the piece belongs; -1, if it belongs in none.
func (p Piece) List() int {
	switch {
	case p.Kind == api.InFree:
		return place.Bin(half.Log(p.Len))
	case p.Kind == api.InSlab && p.Taken&Full(p.Class) != Full(p.Class):
		return place.Rack(p.Class)
	}
	return -1
}

// Heap is values of the cells of a configuration. Those that were copied share no values with what they were copied from.
type Heap struct {
	api.Config
	Vals []uint32
}

// Lay lays pieces from the page 0 on; pages behind them are left without a span. Each piece is put into its list, by turns ahead of all others and behind them, so that lists are in no plain order.
func Lay(c api.Config, pieces ...Piece) Heap {
	h := Heap{c, make([]uint32, place.Cells(c))}
	p := 0
	for turn, x := range pieces {
		h.lay(p, x)
		if head := x.List(); head >= 0 && turn%3 == 0 {
			h.Push(head, p)
		} else if head >= 0 {
			h.Append(head, p)
		}
		p += x.Len
	}
	return h
}

// lay lays the piece that begins at the page p, beside its links.
func (h Heap) lay(p int, x Piece) {
	h.Vals[place.Info(h.Config, p)] = x.Value()
	h.Vals[place.Foot(h.Config, p+x.Len-1)] = uint32(p) + 1
	h.Vals[place.Taken(h.Config, p)] = x.Taken
	h.SetLive(p, x.Live)
	switch x.Kind {
	case api.InFree:
		h.Vals[place.Free] += uint32(x.Len)
	case api.InUsed:
		h.Vals[place.Live]++
	}
}

// List is the pages of a list, which ends.
func (h Heap) List(head int) []int {
	var pages []int
	for at := h.Vals[head]; at != 0; at = h.Vals[place.Next(h.Config, int(at)-1)] {
		pages = append(pages, int(at)-1)
	}
	return pages
}

// Relink makes a list of these pages.
func (h Heap) Relink(head int, pages ...int) {
	at, ahead := head, uint32(0)
	for _, p := range pages {
		h.Vals[at], h.Vals[place.Prev(h.Config, p)] = uint32(p)+1, ahead
		at, ahead = place.Next(h.Config, p), uint32(p)+1
	}
	h.Vals[at] = 0
}

// Push puts a page into a list, ahead of all others.
func (h Heap) Push(head, p int) {
	h.Relink(head, slices.Insert(h.List(head), 0, p)...)
}

// Append puts a page into a list, behind all others.
func (h Heap) Append(head, p int) {
	h.Relink(head, append(h.List(head), p)...)
}

// Pull takes a page out of a list.
func (h Heap) Pull(head, p int) {
	h.Relink(head, slices.DeleteFunc(h.List(head), func(q int) bool { return q == p })...)
	h.Vals[place.Next(h.Config, p)], h.Vals[place.Prev(h.Config, p)] = 0, 0
}

// SetLive sets the Slots of a page, and counts them among the live blocks.
func (h Heap) SetLive(p int, slots uint32) {
	cell := place.Slots(h.Config, p)
	h.Vals[place.Live] += uint32(half.Ones(slots) - half.Ones(h.Vals[cell]))
	h.Vals[cell] = slots
}

// Copied is the same values as ones of their own.
func (h Heap) Copied() Heap {
	return Heap{h.Config, slices.Clone(h.Vals)}
}

// Rising is n values of which each is another one, and none is 0, the link of a page of a heap, or an info.
func Rising(n int) []uint32 {
	vals := make([]uint32, n)
	for i := range vals {
		vals[i] = uint32(i)<<16 + 1<<30
	}
	return vals
}
