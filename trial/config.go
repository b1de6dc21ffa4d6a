package trial

import (
	"math"

	"nacre/api"
)

// Rights are right configurations: a test's own one, and others, the least and the greatest among them.
func Rights(own api.Config) []api.Config {
	return []api.Config{
		{Threads: 1, Pages: 4, Shift: 10}, {Threads: 16, Pages: 4, Shift: 20}, own, {Threads: 3, Pages: 33, Shift: 12},
		{Threads: 1, Pages: 1024, Shift: 20}, {Threads: 16, Pages: 1024, Shift: 10},
	}
}

// Wrongs are configurations that have pages, and are not right, most of them a test's own one but for one number.
func Wrongs(own api.Config) []api.Config {
	t, p, s := own.Threads, own.Pages, own.Shift
	return []api.Config{
		{Threads: 0, Pages: p, Shift: s}, {Threads: 17, Pages: p, Shift: s}, {Threads: -1, Pages: p, Shift: s},
		{Threads: t, Pages: 3, Shift: s}, {Threads: t, Pages: 1, Shift: s}, {Threads: t, Pages: 1025, Shift: s},
		{Threads: t, Pages: p, Shift: 9}, {Threads: t, Pages: p, Shift: 21}, {Threads: t, Pages: p, Shift: -1},
		{Threads: 0, Pages: 1024, Shift: s}, {Threads: t, Pages: 1 << 14, Shift: s},
	}
}

// Pageless are configurations that have no pages: the zero one, and a test's own one with other numbers of pages.
func Pageless(own api.Config) []api.Config {
	l := []api.Config{{}}
	for _, pages := range []int{0, -own.Pages, math.MinInt} {
		own.Pages = pages
		l = append(l, own)
	}
	return l
}

// Vast are configurations that are not right, and have very many pages: a test's own one but for that.
func Vast(own api.Config) []api.Config {
	var l []api.Config
	for _, pages := range []int{1 << 32, math.MaxInt} {
		own.Pages = pages
		l = append(l, own)
	}
	return l
}

// NoPages are numbers of no page of a configuration of at most 1 << 14, also those of which the low bits are one's.
func NoPages() []int {
	return []int{
		-1, -2, -8, -1024, -1 << 16, -1 << 31, -1 << 32, -1<<32 + 2, math.MinInt, math.MinInt + 2,
		1 << 14, 1 << 16, 1<<16 + 2, 1 << 31, 1<<31 + 2, 1 << 32, 1<<32 + 2, 1 << 60, math.MaxInt - 1, math.MaxInt,
	}
}
