package trial

import (
	"nacre/api"
	"nacre/view"
)

// Chance is a row of numbers that looks like one by chance, and is the same one whenever it begins with the same number.
type Chance uint32

// Next is the next number, below n, which is at most 1 << 16.
func (c *Chance) Next(n int) int {
	*c = *c*1664525 + 1013904223
	return int(*c>>16) % n
}

// Bits is the next 32 bits.
func (c *Chance) Bits() uint32 {
	return uint32(c.Next(1<<16))<<16 | uint32(c.Next(1<<16))
}

// Pick is one of some.
func (c *Chance) Pick(l ...int) int { return l[c.Next(len(l))] }

// Link is a value that is most often the link of a page, or 0, and else the link of none.
func (c *Chance) Link(pages int) uint32 {
	switch c.Next(12) {
	case 0, 1, 2:
		return 0
	case 3:
		return uint32(pages + 1 + c.Next(3))
	case 4:
		return uint32(1)<<(16+c.Next(16)) + uint32(c.Next(pages+1))
	case 5:
		return -uint32(c.Next(3))
	}
	return uint32(1 + c.Next(pages))
}

// Info is a value that is most often the info of a free span, and else one of another kind, or of none.
func (c *Chance) Info(pages int) uint32 {
	switch c.Next(12) {
	case 0:
		return Used(1 + c.Next(pages)).Value()
	case 1:
		return Slab(c.Next(api.Classes), 0, 0).Value()
	case 2:
		return 0
	case 3:
		return Free(1+c.Next(pages)).Value() | 1<<(16+c.Next(16))
	case 4:
		return Free(c.Pick(0, 1024, 1025, 4095)).Value()
	case 5:
		return c.Link(pages)
	}
	return Free(1 + c.Next(pages)).Value()
}

// Twins is two Views of cells that have the same values: most often all of them are known, else some by chance are not.
func (c *Chance) Twins(vals []uint32) (*view.View, *view.View) {
	if c.Next(3) > 0 {
		return view.Whole(vals), view.Whole(vals)
	}
	var lacks []int
	for range c.Next(12) {
		lacks = append(lacks, c.Next(len(vals)))
	}
	return Lacking(vals, lacks...), Lacking(vals, lacks...)
}

// Pieces is pieces that fill so many pages, of which no two free ones are side by side.
func (c *Chance) Pieces(pages int) []Piece {
	var l []Piece
	for pages > 0 {
		var x Piece
		switch what := c.Next(4); {
		case what == 0 && (len(l) == 0 || l[len(l)-1].Kind != api.InFree):
			x = Free(1 + c.Next(min(pages, 9)))
		case what == 1:
			x = Used(1 + c.Next(min(pages, 5)))
		default:
			x = c.slab(c.Next(api.Classes))
		}
		l = append(l, x)
		pages -= x.Len
	}
	return l
}

// slab is a slab of the class k, full or not.
func (c *Chance) slab(k int) Piece {
	taken := c.Bits() & Full(k)
	if taken == 0 || c.Next(3) == 0 {
		taken = Full(k)
	}
	live := c.Bits() & taken
	if c.Next(3) == 0 {
		live = taken
	}
	return Slab(k, taken, live)
}
