package span_test

import (
	"testing"

	"nacre/api"
	"nacre/bin"
	"nacre/info"
	"nacre/place"
	"nacre/span"
	"nacre/trial"
	"nacre/view"
)

// plain is a View on which the chapter's lines are done as they stand there.
type plain struct {
	*view.View
	c api.Config
}

// info is the info of a page.
func (p plain) info(at int) api.Info {
	i, _ := info.Get(p.Get(place.Info(p.c, at)))
	return i
}

// take is what the chapter says of Take.
func (p plain) take(n int) (int, bool) {
	at, ok := bin.Find(p.View, p.c, n)
	if !ok {
		return 0, false
	}
	l := bin.Drop(p.View, p.c, at)
	p.Put(place.Info(p.c, at), trial.Used(n).Value())
	p.Put(place.Foot(p.c, at+n-1), uint32(at+1))
	if l > n {
		bin.Add(p.View, p.c, at+n, l-n)
	}
	p.Put(place.Free, p.Get(place.Free)-uint32(n))
	return at, true
}

// release is what the chapter says of Release.
func (p plain) release(first, n int) {
	at, m, r := first, n, first+n
	if first > 0 {
		f := int(p.Get(place.Foot(p.c, first-1)))
		if p.info(f-1).Kind == api.InFree {
			l := bin.Drop(p.View, p.c, f-1)
			p.Put(place.Info(p.c, first), 0)
			p.Put(place.Foot(p.c, first-1), 0)
			at, m = f-1, m+l
		}
	}
	if r < p.c.Pages {
		if p.info(r).Kind == api.InFree {
			l := bin.Drop(p.View, p.c, r)
			p.Put(place.Info(p.c, r), 0)
			p.Put(place.Foot(p.c, r-1), 0)
			m += l
		}
	}
	bin.Add(p.View, p.c, at, m)
	p.Put(place.Free, p.Get(place.Free)+uint32(n))
}

// shrink is what the chapter says of Shrink.
func (p plain) shrink(first, n, m int) {
	p.Put(place.Info(p.c, first), trial.Used(m).Value())
	p.Put(place.Foot(p.c, first+m-1), uint32(first+1))
	p.release(first+m, n-m)
}

// grow is what the chapter says of Grow.
func (p plain) grow(first, n, m int) bool {
	r := first + n
	if r == p.c.Pages {
		return false
	}
	i := p.info(r)
	if i.Kind != api.InFree || i.Len < m-n {
		return false
	}
	bin.Drop(p.View, p.c, r)
	p.Put(place.Info(p.c, r), 0)
	p.Put(place.Foot(p.c, r-1), 0)
	p.Put(place.Info(p.c, first), trial.Used(m).Value())
	p.Put(place.Foot(p.c, first+m-1), uint32(first+1))
	if i.Len > m-n {
		bin.Add(p.View, p.c, first+m, i.Len-(m-n))
	}
	p.Put(place.Free, p.Get(place.Free)-uint32(m-n))
	return true
}

// wantTake takes on both, and asks whether the same is done and told.
func (p plain) wantTake(t *testing.T, v *view.View, n int) {
	t.Helper()
	page, ok := span.Take(v, p.c, n)
	if want, is := p.take(n); page != want || ok != is {
		t.Fatalf("Take(%v, %d) = %d, %t, not %d, %t", p.c, n, page, ok, want, is)
	}
	trial.WantSame(t, "Take", v, p.View)
}

// wantRelease releases on both, and asks whether the same is done.
func (p plain) wantRelease(t *testing.T, v *view.View, first, n int) {
	t.Helper()
	span.Release(v, p.c, first, n)
	p.release(first, n)
	trial.WantSame(t, "Release", v, p.View)
}

// wantShrink shrinks on both, and asks whether the same is done.
func (p plain) wantShrink(t *testing.T, v *view.View, first, n, m int) {
	t.Helper()
	span.Shrink(v, p.c, first, n, m)
	p.shrink(first, n, m)
	trial.WantSame(t, "Shrink", v, p.View)
}

// wantGrow grows on both, and asks whether the same is done and told.
func (p plain) wantGrow(t *testing.T, v *view.View, first, n, m int) {
	t.Helper()
	if got, want := span.Grow(v, p.c, first, n, m), p.grow(first, n, m); got != want {
		t.Fatalf("Grow(%v, %d, %d, %d) = %t, not %t", p.c, first, n, m, got, want)
	}
	trial.WantSame(t, "Grow", v, p.View)
}

// wantAny does one by chance on both, of the n pages from the first one on, and asks whether the same is done and told.
func (p plain) wantAny(t *testing.T, v *view.View, by *trial.Chance, first, n int) {
	t.Helper()
	some := 1 + by.Next(p.c.Pages)
	switch what := by.Next(4); {
	case what == 0:
		p.wantTake(t, v, by.Pick(some, some, some, 0, -1, p.c.Pages+1))
	case what == 1 && n > 1:
		p.wantShrink(t, v, first, n, 1+by.Next(n-1))
	case what == 2:
		p.wantGrow(t, v, first, n, n+by.Pick(1, 2, some))
	default:
		p.wantRelease(t, v, first, n)
	}
}
