package sample

import (
	"slices"

	"besom/api"
)

// SpoilsOfHeap returns functions each of which changes one list of a heap, and all that lies behind its end.
func SpoilsOfHeap(h api.Heap) []func() {
	out := []func(){
		SpoilWords(h.Arena.Words),
		SpoilWords(h.Pages.Used.W),
		spoil(h.Spans, func(s *api.Span) { s.First += 1000 }),
	}
	for _, s := range h.Spans {
		out = append(out, SpoilWords(s.Alloc.W), SpoilWords(s.Mark.W))
	}
	return out
}

// SpoilsOfGc returns functions each of which changes one list of a collected heap, and all that lies behind its end.
func SpoilsOfGc(g api.Gc) []func() {
	out := append(SpoilsOfHeap(g.Marker.Heap),
		spoil(g.Marker.Grey.Queues, func(q *[]uint64) { *q = []uint64{1000} }),
		spoil(g.Marker.Hands, func(h *api.Hand) { h.Obj += 1000 }),
		spoil(g.Table.Slots, func(s *api.EphSlot) { s.Val += 1000 }),
		spoil(g.Specials, func(s *api.Special) { s.Addr += 1000 }),
		SpoilWords(g.Weak),
		spoil(g.Queue, func(i *api.Item) { i.Tag += 1000 }))
	for _, q := range g.Marker.Grey.Queues {
		out = append(out, SpoilWords(q))
	}
	return out
}

// SpoilsOfRuntime returns functions each of which changes one list of a runtime, and all that lies behind its end.
func SpoilsOfRuntime(r api.Runtime) []func() {
	out := append(SpoilsOfGc(r.Gc), spoil(r.Mutators, func(m *api.Mutator) { m.Scanned = !m.Scanned }))
	for _, m := range r.Mutators {
		out = append(out, spoil(m.Regs, func(reg *api.Reg) { reg.W += 1000 }))
	}
	return out
}

// SpoilsOfRan returns functions each of which changes one list of what was run, and all that lies behind its end.
func SpoilsOfRan(l []api.Ran) []func() {
	out := []func(){spoil(l, func(x *api.Ran) { x.Item.Tag += 1000 })}
	for _, x := range l {
		out = append(out, SpoilWords(x.Fields))
	}
	return out
}

// SpoilFaults returns a function that changes a list, and all that lies behind its end.
func SpoilFaults(l []api.Fault) func() {
	return spoil(l, func(f *api.Fault) { f.At += 1000 })
}

// SpoilWords returns a function that changes a list, and all that lies behind its end.
func SpoilWords(l []uint64) func() {
	return spoil(l, func(w *uint64) { *w += 1000 })
}

func spoil[T any](l []T, change func(x *T)) func() {
	return func() {
		for i := range l[:cap(l)] {
			change(&l[:cap(l)][i])
		}
	}
}

// RoomyHeap returns a heap in memory that goes on behind its lists, where a careless append would write to, and a function that reports whether what lies there is as it was.
func RoomyHeap(h api.Heap) (api.Heap, func() bool) {
	h = CopyHeap(h)
	rests := []func() bool{extend(&h.Arena.Words, 77), extend(&h.Pages.Used.W, 77)}
	for i := range h.Spans {
		s := &h.Spans[i]
		rests = append(rests, extend(&s.Alloc.W, 77), extend(&s.Mark.W, 77))
	}
	rests = append(rests, extendBy(&h.Spans, Span(77, 1, 4, 0, 0), func(s api.Span) bool { return s.First == 77 }))
	return h, every(rests)
}

// RoomyGc returns a collected heap in such memory, and a function that reports whether what lies behind its lists is as it was.
func RoomyGc(g api.Gc) (api.Gc, func() bool) {
	g = CopyGc(g)
	h, rest := RoomyHeap(g.Marker.Heap)
	g.Marker.Heap = h
	rests := []func() bool{
		rest, extend(&g.Weak, 77),
		extend(&g.Marker.Hands, api.Hand{Obj: 77}), extend(&g.Table.Slots, api.EphSlot{Key: 77}),
		extend(&g.Specials, Final(77, 77)), extend(&g.Queue, FinalItem(77, 77)),
	}
	for i := range g.Marker.Grey.Queues {
		rests = append(rests, extend(&g.Marker.Grey.Queues[i], 77))
	}
	rests = append(rests, extendBy(&g.Marker.Grey.Queues, []uint64{77}, func(q []uint64) bool { return slices.Equal(q, []uint64{77}) }))
	return g, every(rests)
}

// RoomyRuntime returns a runtime in such memory, and a function that reports whether what lies behind its lists is as it was.
func RoomyRuntime(r api.Runtime) (api.Runtime, func() bool) {
	r = CopyRuntime(r)
	g, rest := RoomyGc(r.Gc)
	r.Gc = g
	rests := []func() bool{rest}
	for i := range r.Mutators {
		rests = append(rests, extend(&r.Mutators[i].Regs, Num(77)))
	}
	rests = append(rests, extendBy(&r.Mutators, Scanned(Mutator(Num(77))), func(m api.Mutator) bool {
		return m.Scanned && slices.Equal(m.Regs, Mutator(Num(77)).Regs)
	}))
	return r, every(rests)
}

// every returns a function that reports whether each of these reports true.
func every(l []func() bool) func() bool {
	return func() bool {
		return !slices.ContainsFunc(l, func(one func() bool) bool { return !one() })
	}
}

// extend puts an element behind the end of a list, and returns a function that reports whether it is there still.
func extend[T comparable](l *[]T, x T) func() bool {
	return extendBy(l, x, func(y T) bool { return x == y })
}

func extendBy[T any](l *[]T, x T, known func(y T) bool) func() bool {
	n := len(*l)
	long := append(slices.Clone(*l), x)
	*l = long[:n]
	return func() bool {
		return known(long[n])
	}
}

// WovenGcs returns valid collected heaps whose lists share memory, in each phase.
func WovenGcs() []api.Gc {
	var out []api.Gc
	for phase := range api.PhaseCount {
		word, line := []uint64{3}, []uint64{16, 18}
		g := Gc(phase, Off(Heap(2, []api.Span{Span(1, 1, 2, 3, 3)}, Object{Addr: 16}, Object{Addr: 18}), 2))
		s := &g.Marker.Heap.Spans[0]
		g.Marker.Heap.Pages.Used.W, s.Alloc.W, s.Mark.W, g.Weak = word, word, word, line
		g.Marker.On = phase == api.PhaseMark || phase == api.PhaseLate
		out = append(out, g)
		if g.Marker.On {
			g.Marker.Grey.Queues = [][]uint64{line[:1], line[1:]}
			out = append(out, g)
		}
	}
	return out
}

// WovenRuntimes returns valid runtimes whose lists share memory, in each phase.
func WovenRuntimes() []api.Runtime {
	var out []api.Runtime
	for _, g := range WovenGcs() {
		m := Mutator(Ref(16), Ref(18), Ref(16), Num(1))
		m.Scanned = g.Marker.On
		out = append(out, api.Runtime{Gc: g, Mutators: []api.Mutator{m, m, m}})
	}
	return out
}
