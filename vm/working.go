package vm

import (
	"slices"

	"besom/api"
	"besom/asm"
	"besom/mut"
	"besom/plain"
	"besom/sched"
)

// working is a valid machine at work. What it refuses changes nothing.
type working struct {
	api.Vm
}

// view returns a valid machine. It shares the memory of v.
func view(v api.Vm) (working, api.Errno) {
	w := working{v}
	if len(w.Ran) > api.MaxRan || !w.threaded() || sched.Check(w.Runtime) != api.OK {
		return working{}, api.ErrForm
	}
	return w, api.OK
}

// threaded reports whether there are as many threads as mutators, each of which is right.
func (w working) threaded() bool {
	return len(w.Threads) == len(w.Runtime.Mutators) && !slices.ContainsFunc(w.Threads, func(t api.Thread) bool {
		return asm.Check(t.Code) != api.OK || t.Pc < 0 || t.Pc > len(t.Code) || t.Err != api.OK && !t.Halted
	})
}

// twin returns a copy with memory of its own.
func (w working) twin() working {
	return working{plain.Vm(w.Vm)}
}

// halted reports whether all threads are Halted.
func (w working) halted() bool {
	return !slices.ContainsFunc(w.Threads, func(t api.Thread) bool { return !t.Halted })
}

// step executes one step of the thread who.
func (w *working) step(who int) api.Errno {
	if who < 0 || who >= len(w.Threads) {
		return api.ErrTask
	}
	t := &w.Threads[who]
	if t.Halted {
		return api.ErrState
	}
	t.Steps++
	if t.Pc == len(t.Code) || t.Code[t.Pc].Kind == api.InstrHalt {
		t.Halted = true
		return api.OK
	}
	next, why := w.execute(who, t.Code[t.Pc], t.Pc+1)
	if why != api.OK {
		// That an instruction is refused ends the thread, and is not an error of the step.
		t.Halted, t.Err = true, why
		return api.OK
	}
	t.Pc = next
	return api.OK
}

// task executes a task of the collector, and returns what was run by it.
func (w *working) task(t api.Task) (api.Ran, api.Errno) {
	r, ran, why := sched.Do(w.Runtime, t)
	w.Runtime = r
	if why == api.OK && t.Kind == api.TaskRun {
		w.Ran = plain.Record(w.Ran, ran)
	}
	return ran, why
}

// execute executes an instruction of the thread who, and returns where the thread goes on: at next, unless the instruction says otherwise.
func (w *working) execute(who int, x api.Instr, next int) (int, api.Errno) {
	regs := w.Runtime.Mutators[who].Regs
	switch x.Kind {
	case api.InstrDo:
		return next, w.operate(who, x.Op)
	case api.InstrAdd:
		return next, calculate(&regs[x.A], regs[x.B], regs[x.A].W+regs[x.B].W)
	case api.InstrSub:
		return next, calculate(&regs[x.A], regs[x.B], regs[x.A].W-regs[x.B].W)
	case api.InstrJump:
		return x.To, api.OK
	case api.InstrZero:
		if regs[x.A].W == 0 {
			return x.To, api.OK
		}
	case api.InstrSame:
		if regs[x.A] == regs[x.B] {
			return x.To, api.OK
		}
	}
	return next, api.OK
}

// operate executes an operation of the mutator who.
func (w *working) operate(who int, op api.Op) api.Errno {
	r, _, why := mut.Do(w.Runtime, who, op)
	w.Runtime = r
	return why
}

// calculate makes n, which was calculated of both registers, the contents of a. Only numbers can be calculated with.
func calculate(a *api.Reg, b api.Reg, n uint64) api.Errno {
	if a.Ref || b.Ref {
		return api.ErrType
	}
	a.W = n
	return api.OK
}
