package trial

import (
	"slices"

	"nacre/api"
	"nacre/pocket"
)

// Dealt is a heap whose slots at hand are dealt out among its threads: All are the Pockets of these, which fit it.
type Dealt struct {
	Ground
	All []api.Pockets
}

// Dealt lays a heap of pieces, of which so many slots are made live that there is room for the others in the pockets, and deals these out.
func (c *Chance) Dealt(t T, conf api.Config, pieces []Piece) Dealt {
	t.Helper()
	pieces = c.Thin(conf, pieces)
	d := Dealt{LayGround(t, conf, pieces...), c.Deal(conf, AtHand(conf, pieces...))}
	d.WantFits(t, "laid")
	return d
}

// FewClasses is pieces of slabs of two classes alone, most of them not full, with free pages and used ones between.
func (c *Chance) FewClasses(pages int) []Piece {
	kinds := []int{c.Next(api.Classes), c.Next(api.Classes)}
	var l []Piece
	for range pages {
		k := c.Pick(kinds...)
		taken := 1 + c.Bits()%Full(k)
		switch c.Next(8) {
		case 0:
			l = append(l, Used(1))
		case 1:
			l = append(l, Free(1))
		default:
			l = append(l, Slab(k, taken, taken&c.Bits()))
		}
	}
	return l
}

// SomeDealt is a small heap.
func (c *Chance) SomeDealt(t T) Dealt {
	t.Helper()
	conf := api.Config{Threads: 1 + c.Next(c.Pick(2, 4, 16)), Pages: 4 + c.Next(c.Pick(4, 12)), Shift: 10 + c.Next(11)}
	if c.Next(2) == 0 {
		return c.Dealt(t, conf, c.FewClasses(conf.Pages))
	}
	return c.Dealt(t, conf, c.Pieces(conf.Pages))
}

// Dealts are heaps of each sort: of each of the configurations one that is free, and one of pieces; and small ones.
func Dealts(t T, rights []api.Config) []Dealt {
	t.Helper()
	var l []Dealt
	for i, conf := range rights {
		by := Chance(i)
		l = append(l, by.Dealt(t, conf, []Piece{Free(conf.Pages)}), by.Dealt(t, conf, by.Pieces(conf.Pages)))
	}
	for seed := range 40 {
		by := Chance(seed)
		l = append(l, by.SomeDealt(t))
	}
	return l
}

// Copied is a heap that holds the same, with the same Pockets.
func (d Dealt) Copied() Dealt { return Dealt{d.Ground.Copied(), slices.Clone(d.All)} }

// WantFits asks whether the values are a heap that the Pockets fit.
func (d Dealt) WantFits(t T, what string) {
	t.Helper()
	if !pocket.Fits(d.C, d.V.Vals(), d.All) {
		t.Fatalf("%s: the pockets %v do not fit the heap of %v", what, d.All, d.C)
	}
}
