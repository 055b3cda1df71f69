package cache

import (
	"slices"

	"besom/api"
	"besom/class"
)

// manned reports whether there are mutators, no more than there may be, each with a place for a span of each class, and with counts.
func (w working) manned() bool {
	n := len(w.Spans)
	if n < 1 || n > api.MaxMutators || len(w.Hits) != n || len(w.Misses) != n {
		return false
	}
	return !slices.ContainsFunc(w.Spans, func(own []int) bool {
		return len(own) != api.NumClasses
	})
}

// owned reports whether mutators own such spans as they may, and none that another one owns.
func (w working) owned() bool {
	seen := map[int]struct{}{}
	for _, own := range w.Spans {
		for c, first := range own {
			if first == 0 {
				continue
			}
			if _, twice := seen[first]; twice || !w.ownable(first, c) {
				return false
			}
			seen[first] = struct{}{}
		}
	}
	return true
}

// ownable reports whether a span begins at page first that may be owned for a class.
func (w working) ownable(first, c int) bool {
	at := w.spanAt(first)
	if at < 0 {
		return false
	}
	size, _ := class.Size(c)
	s := w.Gc.Marker.Heap.Spans[at]
	return s.Swept && s.Size == size
}
