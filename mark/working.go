package mark

import (
	"slices"
	"sync/atomic"

	"besom/api"
	"besom/barrier"
	"besom/grey"
	"besom/head"
	"besom/plain"
)

// working is a valid marker at work, the objects in it that are marked, and how many steps were executed.
type working struct {
	api.Marker
	marked plain.Set
	steps  atomic.Int64
}

// view returns a valid marker, with memory of its own.
func view(m api.Marker) (*working, api.Errno) {
	if why := barrier.Check(m); why != api.OK {
		return nil, why
	}
	marked := plain.SetOf(len(m.Heap.Arena.Words), plain.Marked(m.Heap))
	return &working{Marker: plain.Marker(m), marked: marked}, api.OK
}

func (w *working) has(worker int) bool {
	return worker >= 0 && worker < len(w.Hands)
}

func (w *working) done() bool {
	return plain.Empty(w.Grey) && !slices.ContainsFunc(w.Hands, func(h api.Hand) bool { return h.Obj != 0 })
}

// step executes one step of a worker, if there is one.
func (w *working) step(worker int) bool {
	if w.Hands[worker].Obj == 0 {
		return w.take(worker)
	}
	w.examine(worker)
	w.steps.Add(1)
	return true
}

// take takes an object from a queue, if there is one.
func (w *working) take(worker int) bool {
	g, addr, _, why := grey.Pop(w.Grey, worker)
	if why != api.OK {
		return false
	}
	w.Grey, w.Hands[worker] = g, api.Hand{Obj: addr}
	w.steps.Add(1)
	return true
}

// examine shades what the next field of the object in a hand refers to, or puts the object away if there is no such field.
func (w *working) examine(worker int) {
	hand := w.Hands[worker]
	shape, fields := plain.Object(w.Heap, hand.Obj)
	field, why := head.Next(shape, hand.Field)
	if why != api.OK {
		w.Hands[worker] = api.Hand{}
		return
	}
	w.shade(worker, fields[field])
	w.Hands[worker].Field = field + 1
}

// shade shades an object, if there is one. Whether it is marked already is asked here, because most are, and barrier would look at the whole heap to tell.
func (w *working) shade(worker int, addr uint64) {
	if addr == 0 || w.marked[addr] {
		return
	}
	w.marked[addr] = true
	w.Marker, _, _ = barrier.Shade(w.Marker, worker, addr)
}
