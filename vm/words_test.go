package vm_test

import (
	"math/big"

	"besom/api"
	"besom/asm"
	"besom/mut"
	"besom/sample"
	"besom/sched"
)

// What the chapter's words say, written down once more, and without regard for speed.

var same = sample.SameVms

// checked is what Check answers.
func checked(v api.Vm) api.Errno {
	right := sched.Check(v.Runtime) == api.OK && len(v.Threads) == len(v.Runtime.Mutators) && len(v.Ran) <= 256
	for _, t := range v.Threads {
		if asm.Check(t.Code) != api.OK || t.Pc < 0 || t.Pc > len(t.Code) || t.Err != api.OK && !t.Halted {
			right = false
		}
	}
	if !right {
		return api.ErrForm
	}
	return api.OK
}

// modulo is a number modulo 2^64.
func modulo(n *big.Int) uint64 {
	size := new(big.Int).Lsh(big.NewInt(1), 64)
	return n.Mod(n, size).Uint64()
}

// number is the number that a register contains.
func number(reg api.Reg) *big.Int {
	return new(big.Int).SetUint64(reg.W)
}

// stepped is what Step answers.
func stepped(v api.Vm, who int) (api.Vm, api.Errno) {
	if who < 0 || who > len(v.Threads)-1 {
		return v, api.ErrTask
	}
	if v.Threads[who].Halted {
		return v, api.ErrState
	}
	out := sample.CopyVm(v)
	t := &out.Threads[who]
	t.Steps++
	if t.Pc == len(t.Code) {
		t.Halted = true
		return out, api.OK
	}
	regs := out.Runtime.Mutators[who].Regs
	x := t.Code[t.Pc]
	why, next := api.OK, t.Pc+1
	switch x.Kind {
	case api.InstrHalt:
		next, t.Halted = t.Pc, true
	case api.InstrDo:
		out.Runtime, _, why = mut.Do(v.Runtime, who, x.Op)
	case api.InstrAdd, api.InstrSub:
		a, b := regs[x.A], regs[x.B]
		switch {
		case a.Ref || b.Ref:
			why = api.ErrType
		case x.Kind == api.InstrAdd:
			regs[x.A] = sample.Num(modulo(new(big.Int).Add(number(a), number(b))))
		default:
			regs[x.A] = sample.Num(modulo(new(big.Int).Sub(number(a), number(b))))
		}
	case api.InstrJump:
		next = x.To
	case api.InstrZero:
		if regs[x.A] == sample.Num(0) || regs[x.A] == sample.Ref(0) {
			next = x.To
		}
	case api.InstrSame:
		if regs[x.A].Ref == regs[x.B].Ref && regs[x.A].W == regs[x.B].W {
			next = x.To
		}
	}
	if why != api.OK {
		t.Halted, t.Err = true, why
		return out, api.OK
	}
	t.Pc = next
	return out, api.OK
}

// tasked is what Task answers.
func tasked(v api.Vm, task api.Task) (api.Vm, api.Ran, api.Errno) {
	r, ran, why := sched.Do(v.Runtime, task)
	if why != api.OK {
		return v, api.Ran{}, why
	}
	out := sample.CopyVm(v)
	out.Runtime = r
	if task.Kind == api.TaskRun {
		out.Ran = append(out.Ran, sample.CopyRan(ran))
		if len(out.Ran) > 256 {
			out.Ran = out.Ran[1:]
		}
	}
	return out, ran, api.OK
}

// happened is what Step or Task answers, as the event says.
func happened(v api.Vm, e api.Event) (api.Vm, api.Errno) {
	if e.Thread {
		return stepped(v, e.Who)
	}
	out, _, why := tasked(v, e.Task)
	return out, why
}

// played is what Play answers.
func played(v api.Vm, l ...api.Event) (api.Vm, int, api.Errno) {
	if len(l) > 4096 {
		return v, 0, api.ErrRange
	}
	for _, e := range l {
		if e.Times < 0 || e.Times > 4096 {
			return v, 0, api.ErrRange
		}
	}
	steps := 0
	for _, e := range l {
		why := api.OK
		for k := 0; k < e.Times && why == api.OK; k++ {
			if v, why = happened(v, e); why == api.OK {
				steps++
			}
		}
	}
	return v, steps, api.OK
}

// halted reports whether all threads are Halted.
func halted(v api.Vm) bool {
	for _, t := range v.Threads {
		if !t.Halted {
			return false
		}
	}
	return true
}

// rested is what Rest answers.
func rested(v api.Vm, steps int) (api.Vm, int, api.Errno) {
	if steps < 0 || steps > 4096 {
		return v, 0, api.ErrRange
	}
	for n := range steps {
		if halted(v) {
			return v, n, api.OK
		}
		for who := range v.Threads {
			v, _ = stepped(v, who)
		}
		for _, task := range sample.Round(v.Runtime) {
			v, _, _ = tasked(v, task)
		}
	}
	return v, steps, api.OK
}
