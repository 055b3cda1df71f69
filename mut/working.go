package mut

import (
	"besom/api"
	"besom/barrier"
	"besom/plain"
	"besom/sched"
	"besom/sweep"
)

// working is a valid runtime in which a mutator is at work. What it refuses may leave it in the midst of a collection: it is dropped then.
type working struct {
	api.Runtime
}

// view returns a valid runtime. It shares the memory of r.
func view(r api.Runtime) (working, api.Errno) {
	if why := sched.Check(r); why != api.OK {
		return working{}, why
	}
	return working{r}, api.OK
}

// twin returns a copy with memory of its own.
func (w working) twin() working {
	return working{plain.Runtime(w.Runtime)}
}

func (w working) has(who int) bool {
	return who >= 0 && who < len(w.Mutators)
}

func isReg(reg int) bool {
	return reg >= 0 && reg < api.NumRegs
}

// check returns why an operation is refused whatever the registers contain, or OK.
func check(op api.Op) api.Errno {
	switch op.Kind {
	case api.OpLoad, api.OpStore, api.OpMove, api.OpWeak, api.OpUpgrade, api.OpPut, api.OpGet:
		if !isReg(op.B) {
			return api.ErrRange
		}
		fallthrough
	case api.OpNew, api.OpConst, api.OpNil, api.OpDel, api.OpFinal, api.OpClean:
		if !isReg(op.A) {
			return api.ErrRange
		}
	case api.OpGc:
	default:
		return api.ErrForm
	}
	return api.OK
}

// do executes an operation of the mutator who, and returns what register A contains then.
func (w *working) do(who int, op api.Op) (api.Reg, api.Errno) {
	if !w.has(who) {
		return api.Reg{}, api.ErrTask
	}
	if why := check(op); why != api.OK {
		return api.Reg{}, why
	}
	if op.Kind == api.OpGc {
		return api.Reg{}, w.start()
	}
	reg, why := w.execute(w.Mutators[who].Regs, op)
	if why != api.OK {
		return api.Reg{}, why
	}
	w.Mutators[who].Regs[op.A] = reg
	return reg, api.OK
}

// execute executes an operation other than OpGc with these registers, and returns what register A is to contain.
func (w *working) execute(regs []api.Reg, op api.Op) (api.Reg, api.Errno) {
	switch op.Kind {
	case api.OpNew:
		return w.create(op.Shape)
	case api.OpLoad:
		return w.load(regs[op.B], op.Field)
	case api.OpStore:
		return regs[op.A], w.store(regs[op.A], op.Field, regs[op.B])
	case api.OpMove:
		return regs[op.B], api.OK
	case api.OpConst:
		return number(op.W), api.OK
	case api.OpWeak:
		return w.handle(regs[op.B])
	case api.OpUpgrade:
		return w.upgrade(regs[op.B])
	case api.OpPut:
		return regs[op.A], w.put(regs[op.A], regs[op.B])
	case api.OpGet:
		return w.get(regs[op.B])
	case api.OpDel:
		return regs[op.A], w.del(regs[op.A])
	case api.OpFinal:
		return regs[op.A], w.attach(regs[op.A], api.SpecialFinal, op.W)
	case api.OpClean:
		return regs[op.A], w.attach(regs[op.A], api.SpecialClean, op.W)
	}
	return reference(0), api.OK
}

func number(w uint64) api.Reg {
	return api.Reg{W: w}
}

func reference(addr uint64) api.Reg {
	return api.Reg{Ref: true, W: addr}
}

// object returns the address of the object in a register.
func object(reg api.Reg) (uint64, api.Errno) {
	if !reg.Ref {
		return 0, api.ErrType
	}
	if reg.W == 0 {
		return 0, api.ErrNil
	}
	return reg.W, api.OK
}

// touch shades objects with worker 0, whom every marker has, while the marker is On. It passes over 0.
func (w *working) touch(addrs ...uint64) {
	if w.Gc.Marker.On {
		w.Gc.Marker, _, _ = barrier.Shade(w.Gc.Marker, 0, addrs...)
	}
}

// refer returns a reference to an object, or to none, that comes from elsewhere than a register: it is touched, because the registers may have been scanned.
func (w *working) refer(addr uint64) api.Reg {
	w.touch(addr)
	return reference(addr)
}

// force executes a forced collection: it ends the one that is under way, and then executes a whole one.
func (w *working) force() api.Errno {
	for w.Gc.Marker.On {
		if !w.step() {
			// The end of the marking is not possible, because the queue has no room for what it would add.
			return api.ErrFull
		}
	}
	if w.Gc.Phase == api.PhaseSweep {
		w.Gc, _, _ = sweep.All(w.Gc)
	}
	r, _, why := sched.Cycle(w.Runtime)
	w.Runtime = r
	return why
}

// step executes the first task of marking that is not refused, if there is one. To try them is to ask for less than all that sched.Tasks would answer.
func (w *working) step() bool {
	for _, t := range w.tasks() {
		if r, _, why := sched.Do(w.Runtime, t); why == api.OK {
			w.Runtime = r
			return true
		}
	}
	return false
}

// tasks returns the tasks of marking, in the order of sched.Tasks.
func (w working) tasks() []api.Task {
	var l []api.Task
	for who, m := range w.Mutators {
		if !m.Scanned {
			l = append(l, api.Task{Kind: api.TaskScan, Who: who})
		}
	}
	for who := range w.Gc.Marker.Hands {
		l = append(l, api.Task{Kind: api.TaskWork, Who: who})
	}
	return append(l, api.Task{Kind: api.TaskFinish})
}
