package vm_test

import (
	"testing"

	"besom/api"
	"besom/sample"
	"besom/vm"
)

// 25.6

// TestRight: whatever happens to a machine, in whatever order, it is valid.
func TestRight(t *testing.T) {
	p := sample.Picks(271)
	steps, tasks, ran := 0, 0, 0
	for i, v := range vms(272, 60) {
		// Something may be refused at once, when threads are Halted: they go on.
		for who := range v.Threads {
			v.Threads[who].Halted, v.Threads[who].Err = false, api.OK
		}
		for range 60 {
			e := sample.SomeEvent(&p, 4)
			var n int
			var why api.Errno
			switch p.Below(4) {
			case 0:
				v, why = vm.Step(v, e.Who)
				n = 1
			case 1:
				v, _, why = vm.Task(v, e.Task)
			case 2:
				v, n, why = vm.Play(v, e, sample.SomeEvent(&p, 9))
			case 3:
				v, n, why = vm.Rest(v, p.Below(3))
			}
			if vm.Check(v) != api.OK || checked(v) != api.OK {
				t.Fatalf("machine %d is not valid", i)
			}
			if why == api.OK {
				steps, tasks = steps+n, tasks+1
			}
		}
		ran += len(v.Ran)
	}
	if steps < 1000 || tasks < 2000 || ran < 500 {
		t.Error(steps, tasks, ran)
	}
}

// 25.7

// end is how a thread ends: where it is, and the numbers in its registers.
type end struct {
	pc     int
	steps  uint64
	halted bool
	err    api.Errno
	regs   [4]api.Reg
}

// endOf is the end of the thread who. Of what a register refers to, it is the same only whether that is nothing.
func endOf(v api.Vm, who int) end {
	t := v.Threads[who]
	e := end{pc: t.Pc, steps: t.Steps, halted: t.Halted, err: t.Err}
	for i, reg := range v.Runtime.Mutators[who].Regs {
		if reg.Ref {
			reg.W = min(reg.W, 1)
		}
		e.regs[i] = reg
	}
	return e
}

// apart executes all steps of each thread, one thread after the other, without tasks but those that operations force.
func apart(t *testing.T, v api.Vm, steps int) api.Vm {
	t.Helper()
	for who := range v.Threads {
		var why api.Errno
		if v, _, why = vm.Play(v, sample.Turn(who, steps)); why != api.OK {
			t.Fatal(why)
		}
	}
	return v
}

// among executes as many steps of each thread, with all kinds of tasks between them: rare says how seldom there is a step.
func among(t *testing.T, p *sample.Picks, v api.Vm, steps, rare int) api.Vm {
	t.Helper()
	for left := len(v.Threads); left > 0; {
		all := sample.Round(v.Runtime)
		e := api.Event{Task: all[p.Below(len(all))], Times: 1 + p.Below(4)}
		if p.Below(rare) == 0 {
			who := p.Below(len(v.Threads))
			e = sample.Turn(who, min(1+p.Below(4), steps-int(v.Threads[who].Steps)))
		}
		var why api.Errno
		if v, _, why = vm.Play(v, e); why != api.OK {
			t.Fatal(why)
		}
		left = 0
		for _, thread := range v.Threads {
			if !thread.Halted && thread.Steps < uint64(steps) {
				left++
			}
		}
	}
	return v
}

// inRounds executes as many steps of each thread in rounds.
func inRounds(t *testing.T, v api.Vm, steps int) api.Vm {
	t.Helper()
	v, _, why := vm.Rest(v, steps)
	if why != api.OK {
		t.Fatal(why)
	}
	return v
}

// full reports whether a thread was ended for lack of space.
func full(v api.Vm) bool {
	for _, thread := range v.Threads {
		if thread.Err == api.ErrFull {
			return true
		}
	}
	return false
}

// TestSameNumbers: programs end with the same numbers in their registers, wherever the tasks of the collector are executed.
func TestSameNumbers(t *testing.T) {
	p := sample.Picks(273)
	alike, collected := 0, 0
	for i := range 36 {
		var l [][]api.Instr
		for range 1 + i%4 {
			l = append(l, sample.BusyProgram(&p, 1+p.Below(24)))
		}
		start, why := vm.Make(6+p.Below(30), 1+i/4%4, l...)
		if why != api.OK {
			t.Fatal(why)
		}
		steps := 40 + p.Below(200)
		want := apart(t, start, steps)
		for k, got := range []api.Vm{among(t, &p, start, steps, 2), among(t, &p, start, steps, 9), inRounds(t, start, steps)} {
			if full(want) || full(got) {
				continue
			}
			for who := range l {
				if a, b := endOf(want, who), endOf(got, who); a != b {
					t.Errorf("machine %d, way %d, thread %d: %v, and %v", i, k, who, a, b)
				}
				alike++
			}
			collected += len(sample.Addrs(want.Runtime.Gc.Marker.Heap)) - len(sample.Addrs(got.Runtime.Gc.Marker.Heap))
		}
	}
	if alike < 150 || collected < 500 {
		t.Error(alike, collected)
	}
}

// TestSameSum: the sum of the chapter's example is the same beside any tasks.
func TestSameSum(t *testing.T) {
	p := sample.Picks(274)
	for range 20 {
		v, _ := vm.Make(3, 2, sample.SumProgram(), sample.WrongProgram())
		v = among(t, &p, v, 99, 5)
		if v.Runtime.Mutators[0].Regs[2] != sample.Num(55) || v.Threads[0].Steps != 43 || v.Threads[1].Err != api.ErrType || v.Threads[1].Steps != 3 {
			t.Error(v.Threads, v.Runtime.Mutators)
		}
	}
}
