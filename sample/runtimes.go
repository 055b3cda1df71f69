package sample

import (
	"math"
	"slices"

	"besom/api"
)

// Ref returns a register that holds a reference.
func Ref(addr uint64) api.Reg {
	return api.Reg{Ref: true, W: addr}
}

// Num returns a register that holds a number.
func Num(w uint64) api.Reg {
	return api.Reg{W: w}
}

// Mutator returns a mutator that is not Scanned, whose first registers are these. The others hold the number 0.
func Mutator(regs ...api.Reg) api.Mutator {
	return api.Mutator{Regs: append(slices.Clone(regs), make([]api.Reg, max(0, 4-len(regs)))...)}
}

// Scanned returns the mutator when it is Scanned.
func Scanned(m api.Mutator) api.Mutator {
	m.Scanned = true
	return m
}

// Runtime returns a runtime. It does not ask whether it is valid.
func Runtime(g api.Gc, l ...api.Mutator) api.Runtime {
	return CopyRuntime(api.Runtime{Gc: g, Mutators: l})
}

// CopyRuntime returns the runtime with memory of its own.
func CopyRuntime(r api.Runtime) api.Runtime {
	r.Gc = CopyGc(r.Gc)
	r.Mutators = slices.Clone(r.Mutators)
	for i, m := range r.Mutators {
		r.Mutators[i].Regs = slices.Clone(m.Regs)
	}
	return r
}

// SameRuntimes reports whether two runtimes are alike; a nil list is an empty one.
func SameRuntimes(a, b api.Runtime) bool {
	return SameGcs(a.Gc, b.Gc) && slices.EqualFunc(a.Mutators, b.Mutators, func(m, n api.Mutator) bool {
		return m.Scanned == n.Scanned && slices.Equal(m.Regs, n.Regs)
	})
}

// SameRan reports whether two items were run alike; a nil list is an empty one.
func SameRan(a, b api.Ran) bool {
	return a.Item == b.Item && slices.Equal(a.Fields, b.Fields)
}

// Refs returns what the registers of a mutator refer to, without 0, in order.
func Refs(m api.Mutator) []uint64 {
	var out []uint64
	for _, reg := range m.Regs {
		if reg.Ref && reg.W != 0 {
			out = append(out, reg.W)
		}
	}
	return out
}

// ThreeItems is the collected heap of the examples of chapter 17: a is at 16.
func ThreeItems() api.Gc {
	h := Heap(4, []api.Span{Span(1, 1, 4, 1, 0)}, Object{Addr: 16, N: 2, Mask: 1, Fields: []uint64{16, 5}})
	g := Gc(api.PhaseIdle, Off(h, 2))
	g.Queue = []api.Item{CleanItem(1), FinalItem(16, 2), CleanItem(3)}
	return g
}

// ThreeLists is the runtime of the examples of chapter 18: l0 to l2 are at 16, 18 and 20.
func ThreeLists() api.Runtime {
	h := Heap(6, []api.Span{Span(1, 1, 2, 7, 0)}, Object{Addr: 16, N: 1, Mask: 1}, Object{Addr: 18, N: 1, Mask: 1}, Object{Addr: 20, N: 1, Mask: 1})
	g := Gc(api.PhaseIdle, Off(h, 2))
	g.Specials = []api.Special{Final(18, 7)}
	return Runtime(g, Mutator(Num(0), Num(0), Ref(16)), Mutator())
}

// Runtimes returns valid runtimes, small ones first: one for each collected heap of Gcs.
func Runtimes() []api.Runtime {
	out := []api.Runtime{ThreeLists()}
	p := Picks(91)
	for i, g := range Gcs() {
		out = append(out, Manned(&p, g, 1+i%4))
	}
	return out
}

// SmallRuntimes returns those of Runtimes that a test may try again and again.
func SmallRuntimes() []api.Runtime {
	return slices.DeleteFunc(Runtimes(), func(r api.Runtime) bool { return len(r.Gc.Marker.Heap.Spans) > 100 })
}

// BusyRuntime is in PhaseMark, with something of all kinds: one mutator of three is Scanned, and the others refer to white objects, some of them twice.
func BusyRuntime() api.Runtime {
	g := SixMarked(api.PhaseMark, 16, 22, 24)
	g.Marker = On(g.Marker.Heap, []api.Hand{{}, {Obj: 24, Field: 1}}, []uint64{16})
	g.Table = Without(Pairs(16, 16, 18, 20, 26, 24, 0, 26, 20), 16)
	g.Specials = []api.Special{Cleanup(16, 1), Final(16, 2), Cleanup(20, 3), Final(22, 5), Cleanup(26, 6)}
	g.Weak = []uint64{16, 0, 26}
	g.Queue = []api.Item{FinalItem(22, 7), CleanItem(9), FinalItem(24, 8), FinalItem(16, 1<<63+1)}
	return Runtime(g,
		Mutator(Ref(26), Num(18), Ref(0), Ref(20)),
		Scanned(Mutator(Ref(22), Ref(16), Num(0), Num(20))),
		Mutator(Ref(20), Ref(20), Ref(18), Ref(16)))
}

// SomeRuntime returns a valid runtime in any phase, of so many workers and mutators, and a heap of about so many spans.
func SomeRuntime(p *Picks, spans, workers, mutators int) api.Runtime {
	return Manned(p, SomeGc(p, spans, workers), mutators)
}

// Manned returns a valid runtime of the collected heap, which has to be valid, with so many mutators.
func Manned(p *Picks, g api.Gc, mutators int) api.Runtime {
	all, marked := Addrs(g.Marker.Heap), Marked(g.Marker.Heap)
	r := Runtime(g)
	for range mutators {
		scanned := g.Phase == api.PhaseLate || g.Phase == api.PhaseMark && p.Below(3) > 0
		objects := all
		if scanned {
			objects = marked
		}
		m := Mutator(someReg(p, objects), someReg(p, objects), someReg(p, objects), someReg(p, objects))
		m.Scanned = scanned
		r.Mutators = append(r.Mutators, m)
	}
	return r
}

// someReg returns a register, often one that refers to one of the objects. Its number may look like a reference.
func someReg(p *Picks, objects []uint64) api.Reg {
	if len(objects) > 0 && p.Below(3) > 0 {
		return api.Reg{Ref: p.Below(4) > 0, W: objects[p.Below(len(objects))]}
	}
	if p.Below(2) == 0 {
		return Ref(0)
	}
	return Num(p.Word())
}

// Round returns all tasks that there are in a runtime, in the order of the document.
func Round(r api.Runtime) []api.Task {
	out := []api.Task{{Kind: api.TaskStart}}
	for who := range r.Mutators {
		out = append(out, api.Task{Kind: api.TaskScan, Who: who})
	}
	for who := range r.Gc.Marker.Grey.Queues {
		out = append(out, api.Task{Kind: api.TaskWork, Who: who})
	}
	return append(out, api.Task{Kind: api.TaskFinish}, api.Task{Kind: api.TaskSweep}, api.Task{Kind: api.TaskRun})
}

// BadRuntimes returns runtimes that are not valid, each for a reason of its own.
func BadRuntimes() []api.Runtime {
	bad := []api.Runtime{{}, {Mutators: []api.Mutator{Mutator()}}}
	for _, g := range BadGcs() {
		m := Mutator()
		m.Scanned = g.Phase == api.PhaseLate
		bad = append(bad, Runtime(g, m))
	}
	return slices.Concat(bad, badStaff(), badRegs(), badScanned(), badWhite())
}

// fourPhases are valid runtimes in each of the phases, with one mutator that refers to an object. In PhaseSweep, the object at 32 is no more.
func fourPhases() []api.Runtime {
	one := Mutator(Ref(16))
	swept := Gc(api.PhaseSweep, Off(Heap(4, []api.Span{Span(1, 1, 16, 1, 0), Unswept(Span(2, 1, 16, 1, 0))}, Object{Addr: 16, N: 15}, Object{Addr: 32, N: 15}), 1))
	return []api.Runtime{
		Runtime(SixLists(), one), Runtime(SixMarked(api.PhaseMark, 16), one), Runtime(SixMarked(api.PhaseMark, 16), Scanned(one)),
		Runtime(SixMarked(api.PhaseLate, 16, 20, 22, 24), Scanned(one)), Runtime(swept, one),
	}
}

// badStaff are runtimes with fewer or more mutators or registers than there may be.
func badStaff() []api.Runtime {
	var bad []api.Runtime
	for _, r := range fourPhases() {
		for _, n := range []int{0, 5, 6, 64, 1000} {
			bad = append(bad, Runtime(r.Gc, slices.Repeat(r.Mutators, n)...))
		}
		for _, n := range []int{0, 1, 3, 5, 8, 1000} {
			m := r.Mutators[0]
			m.Regs = append(slices.Clone(m.Regs), make([]api.Reg, 1000)...)[:n]
			bad = append(bad, Runtime(r.Gc, m), Runtime(r.Gc, r.Mutators[0], m), Runtime(r.Gc, m, r.Mutators[0]))
		}
	}
	return bad
}

// badRegs are runtimes in which a register refers to an object that is none, or not current.
func badRegs() []api.Runtime {
	var bad []api.Runtime
	for _, r := range fourPhases() {
		addrs := []uint64{1, 15, 17, 28, 30, 63, 64, 16384, 1 << 32, 1<<32 + 16, 1<<60 + 16, 1 << 63, math.MaxUint64 - 15, math.MaxUint64}
		if r.Gc.Phase == api.PhaseSweep {
			addrs = append(addrs, 32)
		}
		for i, addr := range addrs {
			other := CopyRuntime(r).Mutators[0]
			other.Regs[i%4] = Ref(addr)
			bad = append(bad, Runtime(r.Gc, other), Runtime(r.Gc, r.Mutators[0], r.Mutators[0], other))
		}
	}
	return bad
}

// badScanned are runtimes with a mutator that is Scanned when it may not be, or is not when it has to be.
func badScanned() []api.Runtime {
	var bad []api.Runtime
	for _, r := range fourPhases() {
		if r.Gc.Phase == api.PhaseMark {
			continue
		}
		m := r.Mutators[0]
		other := m
		other.Scanned = !m.Scanned
		empty := Mutator()
		empty.Scanned = other.Scanned
		bad = append(bad, Runtime(r.Gc, other), Runtime(r.Gc, empty), Runtime(r.Gc, m, empty), Runtime(r.Gc, other, m, m, m), Runtime(r.Gc, m, m, m, other))
	}
	return bad
}

// badWhite are runtimes in which a register of a Scanned mutator refers to a white object.
func badWhite() []api.Runtime {
	mark, late := SixMarked(api.PhaseMark, 16, 18), SixMarked(api.PhaseLate, 16, 18)
	late.Specials, late.Weak = nil, nil
	grey := CopyGc(mark)
	grey.Marker = On(Marks(mark.Marker.Heap, 16, 18), []api.Hand{{Obj: 16}, {}}, []uint64{18})
	var bad []api.Runtime
	for _, g := range []api.Gc{mark, late, grey} {
		for i, addr := range []uint64{20, 22, 24, 26} {
			dark := Scanned(Mutator(Ref(16), Ref(18), Ref(0), Num(addr)))
			white := Scanned(Mutator(Ref(16), Ref(18), Ref(18), Ref(16)))
			white.Regs[i] = Ref(addr)
			bad = append(bad, Runtime(g, white), Runtime(g, dark, white), Runtime(g, white, dark, dark, dark))
		}
	}
	return bad
}
