package sample

import (
	"math"
	"slices"

	"besom/api"
)

// Vm returns a machine. It does not ask whether it is valid.
func Vm(r api.Runtime, threads []api.Thread, ran ...api.Ran) api.Vm {
	return CopyVm(api.Vm{Runtime: r, Threads: threads, Ran: ran})
}

// CopyThread returns the thread with memory of its own.
func CopyThread(t api.Thread) api.Thread {
	t.Code = slices.Clone(t.Code)
	return t
}

// CopyVm returns the machine with memory of its own.
func CopyVm(v api.Vm) api.Vm {
	w := CopyWorld(api.World{Runtime: v.Runtime, Ran: v.Ran})
	v.Runtime, v.Ran = w.Runtime, w.Ran
	v.Threads = slices.Clone(v.Threads)
	for i, t := range v.Threads {
		v.Threads[i] = CopyThread(t)
	}
	return v
}

// SameThreads reports whether two threads are alike; a nil list is an empty one.
func SameThreads(a, b api.Thread) bool {
	return slices.Equal(a.Code, b.Code) && a.Pc == b.Pc && a.Halted == b.Halted && a.Err == b.Err && a.Steps == b.Steps
}

// SameVms reports whether two machines are alike; a nil list is an empty one.
func SameVms(a, b api.Vm) bool {
	return SameRuntimes(a.Runtime, b.Runtime) && slices.EqualFunc(a.Threads, b.Threads, SameThreads) && slices.EqualFunc(a.Ran, b.Ran, SameRan)
}

// SpoilsOfVm returns functions each of which changes one list of a machine, and all that lies behind its end.
func SpoilsOfVm(v api.Vm) []func() {
	out := append(SpoilsOfRuntime(v.Runtime), SpoilsOfRan(v.Ran)...)
	out = append(out, spoil(v.Threads, func(t *api.Thread) { t.Pc += 1000 }))
	for _, t := range v.Threads {
		out = append(out, spoil(t.Code, func(x *api.Instr) { x.To += 1000 }))
	}
	return out
}

// RoomyVm returns a machine in memory that goes on behind its lists, where a careless append would write to, and a function that reports whether what lies there is as it was.
func RoomyVm(v api.Vm) (api.Vm, func() bool) {
	v = CopyVm(v)
	w, rest := RoomyWorld(api.World{Runtime: v.Runtime, Ran: v.Ran})
	v.Runtime, v.Ran = w.Runtime, w.Ran
	rests := []func() bool{rest}
	for i := range v.Threads {
		rests = append(rests, extend(&v.Threads[i].Code, api.Instr{Kind: 77, To: 77}))
	}
	last := api.Thread{Pc: 77}
	rests = append(rests, extendBy(&v.Threads, last, func(t api.Thread) bool { return SameThreads(t, last) }))
	return v, every(rests)
}

// WovenVms returns valid machines whose lists share memory, in each phase.
func WovenVms() []api.Vm {
	var out []api.Vm
	for _, w := range WovenWorlds() {
		code := []api.Instr{{Kind: api.InstrAdd, A: 3, B: 3}, Do(api.Op{Kind: api.OpNil, A: 1}), {Kind: api.InstrHalt}}
		threads := []api.Thread{{Code: code}, {Code: code, Pc: 1}, {Code: code[1:2]}}
		out = append(out, api.Vm{Runtime: w.Runtime, Threads: threads, Ran: w.Ran})
	}
	return out
}

// BareVms returns a machine in that phase, with nothing in it but a mutator, twice: with nil lists, and with empty ones.
func BareVms(phase api.Phase) (api.Vm, api.Vm) {
	g, bare := BareGcs(phase)
	one := Mutator(Num(0), Ref(0))
	one.Scanned = phase == api.PhaseLate
	return api.Vm{Runtime: api.Runtime{Gc: g, Mutators: []api.Mutator{one}}, Threads: make([]api.Thread, 1)},
		api.Vm{Runtime: api.Runtime{Gc: bare, Mutators: []api.Mutator{one}}, Threads: []api.Thread{{Code: []api.Instr{}}}, Ran: []api.Ran{}}
}

// SumProgram is the first program of the examples of chapter 25: it adds the numbers from 10 down to 1 into register 2.
func SumProgram() []api.Instr {
	return []api.Instr{
		Do(api.Op{Kind: api.OpConst, W: 10}), Do(api.Op{Kind: api.OpConst, A: 1, W: 1}), Do(api.Op{Kind: api.OpConst, A: 2}),
		{Kind: api.InstrAdd, A: 2}, {Kind: api.InstrSub, B: 1}, {Kind: api.InstrZero, To: 7}, {Kind: api.InstrJump, To: 3}, {Kind: api.InstrHalt},
	}
}

// WrongProgram is the second program of these examples: it adds an object to nothing.
func WrongProgram() []api.Instr {
	return []api.Instr{Do(api.Op{Kind: api.OpNil}), Do(api.Op{Kind: api.OpNew, A: 1, Shape: api.Shape{N: 1}}), {Kind: api.InstrAdd, B: 1}}
}

// SomeThread returns a valid thread somewhere in a program of at most so many instructions. One that is Halted has any error.
func SomeThread(p *Picks, most int) api.Thread {
	t := api.Thread{Code: SomeProgram(p, p.Below(most+1)), Steps: p.Word() >> p.Below(64)}
	t.Pc = p.Below(len(t.Code) + 1)
	if p.Below(5) == 0 {
		t.Halted = true
		t.Err = []api.Errno{api.OK, api.ErrType, api.ErrTask, api.ErrTask + 1, -1, math.MaxInt}[p.Below(6)]
	}
	return t
}

// SomeThreads returns so many of them.
func SomeThreads(p *Picks, count, most int) []api.Thread {
	var out []api.Thread
	for range count {
		out = append(out, SomeThread(p, most))
	}
	return out
}

// Vms returns valid machines with small heaps, in which nothing, something, and as much as is remembered was run.
func Vms() []api.Vm {
	p := Picks(251)
	var out []api.Vm
	for i, w := range Worlds() {
		most := 9
		if i%20 == 0 {
			most = 256
		}
		out = append(out, api.Vm{Runtime: w.Runtime, Threads: SomeThreads(&p, len(w.Runtime.Mutators), most), Ran: w.Ran})
	}
	return out
}

// SomeVms returns so many valid machines with small heaps, half of which have programs that go on and on.
func SomeVms(seed uint64, count int) []api.Vm {
	p := Picks(seed)
	var out []api.Vm
	for i := range count {
		r := SomeRuntime(&p, i%6, 1+i%4, 1+i/4%4)
		threads := SomeThreads(&p, len(r.Mutators), 12)
		for who := range threads {
			if i%2 == 0 {
				threads[who] = api.Thread{Code: BusyProgram(&p, 1+p.Below(20))}
			}
		}
		out = append(out, Vm(r, threads, SomeRans(i%4)...))
	}
	return out
}

// BadVms returns machines that are not valid, each for a reason of its own.
func BadVms() []api.Vm {
	p := Picks(252)
	bad := []api.Vm{{}, {Threads: make([]api.Thread, 1)}}
	for _, w := range BadWorlds() {
		bad = append(bad, api.Vm{Runtime: w.Runtime, Threads: SomeThreads(&p, len(w.Runtime.Mutators), 5), Ran: w.Ran})
	}
	for _, r := range append(fourPhases(), BusyRuntime(), ThreeLists()) {
		for _, n := range []int{0, 1, 2, 3, 4, 5, 100} {
			if n != len(r.Mutators) {
				bad = append(bad, Vm(r, SomeThreads(&p, n, 5)))
			}
		}
	}
	for i, t := range badThreads() {
		threads := make([]api.Thread, 3)
		threads[i%3] = t
		bad = append(bad, Vm(BusyRuntime(), threads, SomeRans(i%3)...))
	}
	return bad
}

// badThreads are threads that are not valid, each for a reason of its own.
func badThreads() []api.Thread {
	var bad []api.Thread
	for i, code := range BadPrograms() {
		// There are so many of them that some are enough.
		if i < 20 || i%50 == 0 {
			bad = append(bad, api.Thread{Code: code}, api.Thread{Code: code, Halted: true})
		}
	}
	for _, code := range [][]api.Instr{nil, {{Kind: api.InstrHalt}}, FiveInstrs(), everyGoal()} {
		for _, pc := range []int{math.MinInt, -1, len(code) + 1, len(code) + 2, 257, 1 << 32, math.MaxInt} {
			bad = append(bad, api.Thread{Code: code, Pc: pc}, api.Thread{Code: code, Pc: pc, Halted: true}, api.Thread{Code: code, Pc: pc, Halted: true, Err: api.ErrType})
		}
		for _, why := range []api.Errno{api.ErrRange, api.ErrType, api.ErrTask, 12, 255, 256, -1, math.MinInt, math.MaxInt} {
			bad = append(bad, api.Thread{Code: code, Err: why}, api.Thread{Code: code, Pc: len(code), Err: why, Steps: 3})
		}
	}
	return bad
}
