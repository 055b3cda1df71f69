// Package plain copies values of package api, and has what several layers do with those that they have found valid, and with the words of their texts.
package plain

import (
	"slices"

	"besom/api"
)

// Heap returns a copy with memory of its own.
func Heap(h api.Heap) api.Heap {
	h.Arena.Words = slices.Clone(h.Arena.Words)
	h.Pages.Used.W = slices.Clone(h.Pages.Used.W)
	h.Spans = slices.Clone(h.Spans)
	for i := range h.Spans {
		s := &h.Spans[i]
		s.Alloc.W = slices.Clone(s.Alloc.W)
		s.Mark.W = slices.Clone(s.Mark.W)
	}
	return h
}

// Grey returns a copy each of whose queues has memory of its own.
func Grey(g api.Grey) api.Grey {
	g.Queues = slices.Clone(g.Queues)
	for i, q := range g.Queues {
		g.Queues[i] = slices.Clone(q)
	}
	return g
}

// Marker returns a copy with memory of its own.
func Marker(m api.Marker) api.Marker {
	m.Heap = Heap(m.Heap)
	m.Grey = Grey(m.Grey)
	m.Hands = slices.Clone(m.Hands)
	return m
}

// Gc returns a copy with memory of its own.
func Gc(g api.Gc) api.Gc {
	g.Marker = Marker(g.Marker)
	g.Table.Slots = slices.Clone(g.Table.Slots)
	g.Specials = slices.Clone(g.Specials)
	g.Weak = slices.Clone(g.Weak)
	g.Queue = slices.Clone(g.Queue)
	return g
}

// Runtime returns a copy with memory of its own.
func Runtime(r api.Runtime) api.Runtime {
	r.Gc = Gc(r.Gc)
	r.Mutators = slices.Clone(r.Mutators)
	for i := range r.Mutators {
		r.Mutators[i].Regs = slices.Clone(r.Mutators[i].Regs)
	}
	return r
}

// Ran returns a copy whose fields have memory of their own.
func Ran(x api.Ran) api.Ran {
	x.Fields = slices.Clone(x.Fields)
	return x
}

// Rans returns a copy with memory of its own.
func Rans(l []api.Ran) []api.Ran {
	l = slices.Clone(l)
	for i, x := range l {
		l[i] = Ran(x)
	}
	return l
}

// World returns a copy with memory of its own.
func World(w api.World) api.World {
	w.Runtime = Runtime(w.Runtime)
	w.Ran = Rans(w.Ran)
	return w
}

// Vm returns a copy with memory of its own.
func Vm(v api.Vm) api.Vm {
	v.Runtime = Runtime(v.Runtime)
	v.Threads = slices.Clone(v.Threads)
	for i := range v.Threads {
		v.Threads[i].Code = slices.Clone(v.Threads[i].Code)
	}
	v.Ran = Rans(v.Ran)
	return v
}
