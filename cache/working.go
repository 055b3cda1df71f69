package cache

import (
	"slices"

	"besom/api"
	"besom/plain"
	"besom/reach"
)

// working is a valid cache at work. What it refuses may leave it with spans given up, or swept: it is dropped then.
type working struct {
	api.Cache
}

// view returns a valid cache. It shares the memory of c.
func view(c api.Cache) (working, api.Errno) {
	w := working{c}
	if !w.manned() || reach.Check(w.Gc) != api.OK || !w.owned() {
		return working{}, api.ErrForm
	}
	return w, api.OK
}

// twin returns a copy with memory of its own.
func (w working) twin() working {
	w.Gc = plain.Gc(w.Gc)
	w.Spans = slices.Clone(w.Spans)
	for who, own := range w.Spans {
		w.Spans[who] = slices.Clone(own)
	}
	w.Hits = slices.Clone(w.Hits)
	w.Misses = slices.Clone(w.Misses)
	return w
}

func (w working) has(who int) bool {
	return who >= 0 && who < len(w.Spans)
}

// everyone returns all mutators.
func (w working) everyone() []int {
	var l []int
	for who := range w.Spans {
		l = append(l, who)
	}
	return l
}

// flush takes all spans away from mutators.
func (w *working) flush(who ...int) {
	for _, i := range who {
		clear(w.Spans[i])
	}
}

// owner returns the mutator that owns the span that begins at page first, or -1.
func (w working) owner(first int) int {
	return slices.IndexFunc(w.Spans, func(own []int) bool {
		return slices.Contains(own, first)
	})
}

// find returns the index of the first span that is wanted, or -1.
func (w working) find(wanted func(s api.Span) bool) int {
	return slices.IndexFunc(w.Gc.Marker.Heap.Spans, wanted)
}

// spanAt returns the index of the span that begins at page first, or -1.
func (w working) spanAt(first int) int {
	return w.find(func(s api.Span) bool {
		return s.First == first
	})
}
