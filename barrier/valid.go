package barrier

import (
	"besom/api"
	"besom/plain"
)

// marking reports whether spans, queues, hands and the marked objects are those of a marker that is On.
func (w working) marking(marked []uint64) bool {
	if !plain.Swept(w.Heap) {
		return false
	}
	examined, right := w.greys()
	if !right {
		return false
	}
	for _, addr := range marked {
		shape, fields := plain.Object(w.Heap, addr)
		n, isGrey := examined[addr]
		if !isGrey {
			n = shape.N
		}
		if !w.dark(shape, fields[:n]) {
			return false
		}
	}
	return true
}

// greys returns for each grey object how many of its fields were examined, and whether queues and hands are of marked objects, none of which is in two places.
func (w working) greys() (map[uint64]int, bool) {
	examined := map[uint64]int{}
	for _, q := range w.Grey.Queues {
		for _, addr := range q {
			if !w.marked.Has(addr) {
				return nil, false
			}
			// Valid queues have no address twice.
			examined[addr] = 0
		}
	}
	for _, h := range w.Hands {
		if h == (api.Hand{}) {
			continue
		}
		if _, twice := examined[h.Obj]; twice || !w.held(h) {
			return nil, false
		}
		examined[h.Obj] = h.Field
	}
	return examined, true
}

// held reports whether a hand has a marked object, and no more of its fields were examined than there are.
func (w working) held(h api.Hand) bool {
	if !w.marked.Has(h.Obj) {
		return false
	}
	shape, _ := plain.Object(w.Heap, h.Obj)
	return h.Field >= 0 && h.Field <= shape.N
}

// dark reports whether none of the fields, which are the first ones of an object of that shape, refers to a white object.
func (w working) dark(shape api.Shape, fields []uint64) bool {
	for i, word := range fields {
		if shape.Mask>>i&1 == 1 && word != 0 && !w.marked.Has(word) {
			return false
		}
	}
	return true
}
