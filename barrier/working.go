package barrier

import (
	"slices"

	"besom/api"
	"besom/grey"
	"besom/heap"
	"besom/plain"
)

// working is a valid marker at work: objects are the current ones, marked those of them that are marked.
type working struct {
	api.Marker
	objects plain.Set
	marked  plain.Set
}

// view returns a valid marker. It shares the memory of m.
func view(m api.Marker) (working, api.Errno) {
	objects, why := heap.Objects(m.Heap)
	if why != api.OK || grey.Check(m.Grey) != api.OK || len(m.Hands) != len(m.Grey.Queues) {
		return working{}, api.ErrForm
	}
	marked := plain.Marked(m.Heap)
	words := len(m.Heap.Arena.Words)
	w := working{m, plain.SetOf(words, objects), plain.SetOf(words, marked)}
	if m.On && !w.marking(marked) || !m.On && !w.off() {
		return working{}, api.ErrForm
	}
	return w, api.OK
}

// twin returns a copy whose marker has memory of its own.
func (w working) twin() working {
	w.Marker = plain.Marker(w.Marker)
	return w
}

func (w working) has(worker int) bool {
	return worker >= 0 && worker < len(w.Hands)
}

// idle reports whether all queues are empty, and no hand has an object.
func (w working) idle() bool {
	return plain.Empty(w.Grey) && !slices.ContainsFunc(w.Hands, func(h api.Hand) bool { return h.Obj != 0 })
}

// off reports whether queues and hands are those of a marker that is not On.
func (w working) off() bool {
	return w.idle() && !slices.ContainsFunc(w.Hands, func(h api.Hand) bool { return h.Field != 0 })
}

// shade shades the objects at the addresses, which have to exist, with a worker, and returns how many of them were not marked.
func (w *working) shade(worker int, addrs ...uint64) int {
	var white []uint64
	for _, addr := range addrs {
		if addr == 0 || w.marked[addr] {
			continue
		}
		w.marked[addr] = true
		w.Heap, _, _ = heap.Mark(w.Heap, addr)
		white = append(white, addr)
	}
	// There are fewer objects than a queue has room for, and none of these was in one, because it was not marked.
	w.Grey, _ = grey.Push(w.Grey, worker, white...)
	return len(white)
}
