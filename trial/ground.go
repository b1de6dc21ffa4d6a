package trial

import (
	"maps"
	"slices"

	"nacre/api"
	"nacre/audit"
	"nacre/place"
	"nacre/view"
)

// Ground is a heap that is worked on by a View, and what it is to hold: of each page at which a span begins that is not free, that span. All else is to be free: as much as there is side by side is one span.
type Ground struct {
	C    api.Config
	V    *view.View
	Held map[int]Piece
}

// LayGround lays a heap of such pieces, from the page 0 on; what is left behind them is used.
func LayGround(t T, c api.Config, pieces ...Piece) Ground {
	t.Helper()
	g := Ground{C: c, Held: map[int]Piece{}}
	at := 0
	for _, x := range pieces {
		if x.Kind != api.InFree {
			g.Held[at] = x
		}
		at += x.Len
	}
	if at < c.Pages {
		g.Held[at] = Used(c.Pages - at)
	}
	g.V = view.Whole(Lay(c, g.Pieces()...).Vals)
	g.WantHeap(t, "laid")
	return g
}

// Grounds are heaps: of each of the configurations one that is a single free span, one without any, and one with two; and of others, some by hand, and some by chance.
func Grounds(t T, rights []api.Config) []Ground {
	t.Helper()
	var l []Ground
	for _, c := range rights {
		l = append(l, LayGround(t, c, Free(c.Pages)), LayGround(t, c, Used(c.Pages)), LayGround(t, c, Free(1), Used(1), Free(c.Pages-2)))
	}
	c := api.Config{Threads: 2, Pages: 60, Shift: 10}
	l = append(l,
		LayGround(t, c, Free(4), Used(1), Free(7), Slab(0, 1, 1), Free(5), Used(2), Free(6), Slab(8, 3, 2), Free(4)),
		LayGround(t, c, Used(4), Used(3), Free(3), Used(1), Used(6), Free(9), Slab(4, 255, 7), Used(9), Slab(1, 2, 2), Free(2), Used(2), Used(3)),
	)
	for seed := range 40 {
		by := Chance(seed)
		c := api.Config{Threads: 1 + by.Next(16), Pages: 4 + by.Next(by.Pick(6, 30, 120)), Shift: 10 + by.Next(11)}
		l = append(l, LayGround(t, c, by.Pieces(c.Pages)...))
	}
	return l
}

// Room is how many pages are free from the page p on, side by side.
func (g Ground) Room(p int) int {
	n := 0
	for ; p+n < g.C.Pages; n++ {
		if _, ok := g.Held[p+n]; ok {
			break
		}
	}
	return n
}

// Pieces are the spans, one behind the other.
func (g Ground) Pieces() []Piece {
	var l []Piece
	for p := 0; p < g.C.Pages; p += l[len(l)-1].Len {
		x, ok := g.Held[p]
		if !ok {
			x = Free(g.Room(p))
		}
		l = append(l, x)
	}
	return l
}

// Most is how many pages the longest free span has.
func (g Ground) Most() int {
	n := 0
	for _, x := range g.Pieces() {
		if x.Kind == api.InFree {
			n = max(n, x.Len)
		}
	}
	return n
}

// Begins are the pages at which spans of these kinds begin that are not free, rising.
func (g Ground) Begins(kinds ...int) []int {
	var l []int
	for p := range g.C.Pages {
		if x, ok := g.Held[p]; ok && slices.Contains(kinds, x.Kind) {
			l = append(l, p)
		}
	}
	return l
}

// Copied is a heap that holds the same, of which nothing was read or put.
func (g Ground) Copied() Ground {
	return Ground{g.C, view.Whole(g.V.Vals()), maps.Clone(g.Held)}
}

// Blocks are the live blocks.
func (g Ground) Blocks() []api.Block { return audit.Live(g.C, g.V.Vals()) }

// Name has the roots name live blocks, if there are any.
func (g Ground) Name() {
	for i, b := range g.Blocks() {
		g.V.Put(place.Root(i%api.Roots), uint32(b.Addr))
	}
}

// Unname has no root name one of these blocks.
func (g Ground) Unname(blocks ...api.Block) {
	for i := range api.Roots {
		for _, b := range blocks {
			if int64(g.V.Get(place.Root(i))) == b.Addr {
				g.V.Put(place.Root(i), 0)
			}
		}
	}
}

// WantHeap asks whether the values are a heap that holds just the spans, and the slots of the slabs, that it is to hold.
func (g Ground) WantHeap(t T, what string) {
	t.Helper()
	vals, want := g.V.Vals(), Lay(g.C, g.Pieces()...).Vals
	if n, ok := audit.Check(g.C, vals); !ok {
		t.Fatalf("%s: of %v the rule %d does not hold", what, g.C, n)
	}
	if got, want := audit.Parts(g.C, vals), audit.Parts(g.C, want); !slices.Equal(got, want) {
		t.Fatalf("%s: the parts of %v are %v, not %v", what, g.C, got, want)
	}
	if got, want := audit.Live(g.C, vals), audit.Live(g.C, want); !slices.Equal(got, want) {
		t.Fatalf("%s: the live blocks of %v are %v, not %v", what, g.C, got, want)
	}
}

// WantVals asks whether the values are those that they were.
func (g Ground) WantVals(t T, was []uint32) {
	t.Helper()
	if got := g.V.Vals(); !slices.Equal(got, was) {
		t.Fatalf("the values of %v are %v, not %v", g.C, got, was)
	}
}
