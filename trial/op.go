package trial

import (
	"math"

	"nacre/api"
	"nacre/class"
)

// Operations, as tests write them.

func Alloc(size int64) api.Op           { return api.Op{Kind: 1, A: size} }
func Release(a int64) api.Op            { return api.Op{Kind: 2, A: a} }
func Realloc(a, size int64) api.Op      { return api.Op{Kind: 3, A: a, B: size} }
func AllocRoot(root, size int64) api.Op { return api.Op{Kind: 4, A: root, B: size} }
func SetRoot(root, a int64) api.Op      { return api.Op{Kind: 5, A: root, B: a} }
func GetRoot(root int64) api.Op         { return api.Op{Kind: 6, A: root} }
func Usable(a int64) api.Op             { return api.Op{Kind: 7, A: a} }
func Stats() api.Op                     { return api.Op{Kind: 8} }
func Flush(k int64) api.Op              { return api.Op{Kind: 9, A: k} }

// Results, as tests write them.

func Done(out, aux int64) api.Result { return api.Result{Out: out, Aux: aux} }
func Failed(e api.Errno) api.Result  { return api.Result{Err: e} }

// NoRoots are numbers of no root, also those of which the low bits are one's.
func NoRoots() []int64 {
	return []int64{-1, -8, 8, 9, 256, 1 << 32, 1<<32 + 1, 1 << 62, math.MinInt64, math.MinInt64 + 1, math.MaxInt64}
}

// Size is a size: most often one that a block has, or nearly.
func (c *Chance) Size(conf api.Config) int64 {
	edge := int64(c.Pick(-1, 0, 0, 0, 1))
	switch c.Next(8) {
	case 0, 1, 2:
		return class.Size(conf.Shift, c.Next(api.Classes)) + edge
	case 3, 4, 5:
		return int64(1+c.Next(conf.Pages))<<conf.Shift + edge
	case 6:
		return int64(1+c.Next(min(conf.Pages, 3)))<<conf.Shift + edge
	}
	return int64(c.Pick(0, -1, 1, math.MaxInt, math.MinInt, 1<<32, 1<<32+1, 1<<30, 1<<30+1))
}

// Address is an address: most often that of one of the blocks, or of one that is at hand, or of a page; else one beside it, or any one.
func (c *Chance) Address(conf api.Config, blocks []api.Block, p api.Pockets) int64 {
	a := int64(1+c.Next(conf.Pages)) << conf.Shift
	if len(blocks) > 0 && c.Next(6) > 0 {
		a = blocks[c.Next(len(blocks))].Addr
	}
	if l := p[c.Next(api.Classes)]; len(l) > 0 && c.Next(4) == 0 {
		a = l[c.Next(len(l))]
	}
	switch c.Next(12) {
	case 0:
		return a + int64(c.Pick(-16, -1, 1, 16, 32, 1<<32))
	case 1:
		return int64(c.Pick(0, -1, 1, 31, 1023, 1<<31, 1<<32+1024, math.MinInt, math.MaxInt, -1024))
	}
	return a
}

// Op is an operation that is right, on a heap with these blocks, of a thread with such Pockets.
func (c *Chance) Op(conf api.Config, blocks []api.Block, p api.Pockets) api.Op {
	size, a := c.Size(conf), c.Address(conf, blocks, p)
	i := int64(c.Next(api.Roots))
	if l := NoRoots(); c.Next(12) == 0 {
		i = l[c.Next(len(l))]
	}
	switch kind := c.Pick(1, 1, 2, 2, 2, 3, 3, 3, 4, 5, 6, 7, 8, 9); kind {
	case 1:
		return Alloc(size)
	case 2:
		return Release(a)
	case 3:
		return Realloc(a, size)
	case 4:
		return AllocRoot(i, size)
	case 5:
		return SetRoot(i, a*int64(c.Pick(0, 1, 1)))
	case 6:
		return GetRoot(i)
	case 7:
		return Usable(a)
	case 8:
		return Stats()
	}
	return Flush(int64(c.Pick(c.Next(api.Classes), c.Next(api.Classes), c.Next(api.Classes), c.Next(api.Classes), 9, -1)))
}
