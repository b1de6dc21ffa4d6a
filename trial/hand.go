package trial

import (
	"cmp"
	"slices"

	"nacre/api"
	"nacre/class"
)

// Hand is an address that stands in the pocket K, or is to stand there.
type Hand struct {
	K    int
	Addr int64
}

// byAddress orders what is at hand by class and address.
func byAddress(x, y Hand) int {
	return cmp.Or(cmp.Compare(x.K, y.K), cmp.Compare(x.Addr, y.Addr))
}

// AtHand is the slots of pieces, from the page 0 on, that are taken and not live, by class and address.
func AtHand(c api.Config, pieces ...Piece) []Hand {
	var l []Hand
	p := 0
	for _, x := range pieces {
		for s := range class.Slots(x.Class) {
			if x.Taken&^x.Live>>s&1 == 1 {
				l = append(l, Hand{x.Class, int64(p+1)<<c.Shift + int64(s)*class.Size(c.Shift, x.Class)})
			}
		}
		p += x.Len
	}
	slices.SortFunc(l, byAddress)
	return l
}

// InPockets is what stands in the pockets of all threads, by class and address.
func InPockets(all []api.Pockets) []Hand {
	var l []Hand
	for _, p := range all {
		for k := range p {
			for _, a := range p[k] {
				l = append(l, Hand{k, a})
			}
		}
	}
	slices.SortFunc(l, byAddress)
	return l
}

// CopyPockets is the same Pockets, which share no list with what they were copied from.
func CopyPockets(p api.Pockets) api.Pockets {
	for k, l := range p {
		p[k] = append([]int64(nil), l...)
	}
	return p
}

// Thin makes so many slots of pieces live that of each class at most as many are at hand as the pockets of all threads have room for.
func (c *Chance) Thin(conf api.Config, pieces []Piece) []Piece {
	var count [api.Classes]int
	most := c.Next(api.MaxPocket*conf.Threads + 1)
	for i, x := range pieces {
		for s := range class.Slots(x.Class) {
			if x.Taken&^x.Live>>s&1 == 0 {
				continue
			}
			if count[x.Class] == most || c.Next(4) == 0 {
				pieces[i].Live |= 1 << s
			} else {
				count[x.Class]++
			}
		}
	}
	return pieces
}

// Deal is the Pockets of all threads, among which slots are dealt out by chance; there must be room for them.
func (c *Chance) Deal(conf api.Config, slots []Hand) []api.Pockets {
	all := make([]api.Pockets, conf.Threads)
	for _, x := range slots {
		at := c.Next(conf.Threads)
		for len(all[at][x.K]) == api.MaxPocket {
			at = (at + 1) % conf.Threads
		}
		to := c.Next(len(all[at][x.K]) + 1)
		all[at][x.K] = slices.Insert(all[at][x.K], to, x.Addr)
	}
	return all
}
