package vm_test

import (
	"math"
	"slices"
	"testing"

	"besom/api"
	"besom/sample"
	"besom/vm"
)

// vms are machines with small heaps, and so many others, half of which have programs that go on and on.
func vms(seed uint64, count int) []api.Vm {
	return append(sample.Vms(), sample.SomeVms(seed, count)...)
}

// programs are several of these.
func programs(l ...[]api.Instr) [][]api.Instr {
	return l
}

// whos are threads, most of which there are not.
func whos() []int {
	return append(sample.Ints(), -2, 0, 1, 2, 3, 4, 5, 255, 1<<32+1)
}

// TestInvalidComesFirst: what is not valid comes before all other errors, and there is no result.
func TestInvalidComesFirst(t *testing.T) {
	p := sample.Picks(253)
	numbers := append(whos(), 64, 4096)
	for i, v := range sample.BadVms() {
		n := numbers[i%len(numbers)]
		if why := vm.Check(v); why != api.ErrForm {
			t.Errorf("Check of invalid machine %d: error %d", i, why)
		}
		if got, why := vm.Step(v, n); !same(got, api.Vm{}) || why != api.ErrForm {
			t.Errorf("Step of invalid machine %d, %d: error %d", i, n, why)
		}
		task := api.Task{Kind: api.TaskKind(i % 8), Who: n}
		if got, ran, why := vm.Task(v, task); !same(got, api.Vm{}) || !sample.SameRan(ran, api.Ran{}) || why != api.ErrForm {
			t.Errorf("Task of invalid machine %d, %v: %v, error %d", i, task, ran, why)
		}
		events := append(sample.SomeEvents(&p, i%3, 9), sample.Turn(n, n))
		if got, steps, why := vm.Play(v, events...); !same(got, api.Vm{}) || steps != 0 || why != api.ErrForm {
			t.Errorf("Play of invalid machine %d, %v: %d, error %d", i, events, steps, why)
		}
		if got, steps, why := vm.Rest(v, n); !same(got, api.Vm{}) || steps != 0 || why != api.ErrForm {
			t.Errorf("Rest of invalid machine %d, %d: %d, error %d", i, n, steps, why)
		}
	}
}

// 25.1

func TestMake(t *testing.T) {
	counts := append(sample.Ints(), -2, 0, 1, 2, 3, 4, 5, 6, 1024, 1025, 1<<32+1)
	bad := []api.Instr{{}}
	for _, pages := range counts {
		for _, workers := range counts {
			for n := range 7 {
				l := slices.Repeat(programs(sample.SumProgram(), sample.WrongProgram(), nil, sample.FiveInstrs()), 2)[:n]
				got, why := vm.Make(pages, workers, l...)
				if pages < 1 || pages > 1024 || workers < 1 || workers > 4 || n < 1 || n > 4 {
					if !same(got, api.Vm{}) || why != api.ErrRange {
						t.Errorf("Make of %d, %d, %d programs: error %d", pages, workers, n, why)
					}
					// What is out of range comes before what is not valid.
					if got, why := vm.Make(pages, workers, slices.Repeat(programs(bad), n)...); !same(got, api.Vm{}) || why != api.ErrRange {
						t.Errorf("Make of %d, %d, %d wrong programs: error %d", pages, workers, n, why)
					}
					continue
				}
				g := sample.Gc(api.PhaseIdle, sample.Off(sample.Heap(pages, nil), workers))
				var threads []api.Thread
				for _, code := range l {
					threads = append(threads, api.Thread{Code: code})
				}
				want := sample.Vm(sample.Runtime(g, slices.Repeat([]api.Mutator{sample.Mutator()}, n)...), threads)
				if !same(got, want) || why != api.OK || vm.Check(got) != api.OK {
					t.Errorf("Make of %d, %d, %d programs: error %d", pages, workers, n, why)
				}
			}
		}
	}
}

// TestMakePrograms: each program has to be valid, wherever it is.
func TestMakePrograms(t *testing.T) {
	for i, code := range sample.Programs() {
		got, why := vm.Make(2, 1, nil, code)
		if why != api.OK || len(got.Threads) != 2 || !sample.SameThreads(got.Threads[1], api.Thread{Code: code}) {
			t.Errorf("program %d: error %d", i, why)
		}
	}
	for i, code := range sample.BadPrograms() {
		l := slices.Insert(programs(nil, sample.SumProgram(), nil), i%4, code)
		for _, l := range [][][]api.Instr{l, {code}, {code, code, code, code}} {
			if got, why := vm.Make(2, 1, l...); !same(got, api.Vm{}) || why != api.ErrForm {
				t.Errorf("invalid program %d, %d in all: error %d", i, len(l), why)
			}
		}
	}
	if got, why := vm.Make(2, 1, slices.Repeat(programs([]api.Instr{{}}), 1000)...); !same(got, api.Vm{}) || why != api.ErrRange {
		t.Error(why)
	}
}

func TestCheck(t *testing.T) {
	for i, v := range vms(254, 200) {
		if why := vm.Check(v); why != api.OK || checked(v) != api.OK {
			t.Errorf("machine %d: error %d", i, why)
		}
	}
	for i, v := range sample.BadVms() {
		if why := vm.Check(v); why != api.ErrForm || checked(v) != api.ErrForm {
			t.Errorf("invalid machine %d: error %d", i, why)
		}
	}
	// A thread may be anywhere in its program, and be Halted anywhere, for whatever reason.
	code := sample.SumProgram()
	for pc := -2; pc <= len(code)+2; pc++ {
		for _, why := range []api.Errno{api.OK, api.ErrForm, api.ErrTask, 12, 255, -1, math.MaxInt, math.MinInt} {
			for _, halted := range []bool{false, true} {
				for _, steps := range []uint64{0, 1, 1 << 63, math.MaxUint64} {
					v := sample.Vm(sample.ThreeLists(), []api.Thread{{Code: code}, {Code: code, Pc: pc, Halted: halted, Err: why, Steps: steps}})
					right := pc >= 0 && pc <= len(code) && (why == api.OK || halted)
					if no := vm.Check(v); (no == api.OK) != right || no != checked(v) {
						t.Errorf("%v: error %d", v.Threads[1], no)
					}
				}
			}
		}
	}
	for _, n := range []int{0, 1, 255, 256, 257, 512} {
		v := sample.Vm(sample.ThreeLists(), make([]api.Thread, 2), sample.SomeRans(n)...)
		if why := vm.Check(v); (why == api.OK) != (n <= 256) {
			t.Errorf("%d that were run: error %d", n, why)
		}
	}
}

// 25.2

func TestStep(t *testing.T) {
	halts, errs, kinds := 0, map[api.Errno]int{}, map[api.InstrKind]int{}
	for i, v := range vms(255, 1000) {
		for _, who := range whos() {
			want, no := stepped(v, who)
			got, why := vm.Step(v, who)
			if !same(got, want) || why != no || vm.Check(got) != api.OK {
				t.Fatalf("machine %d, thread %d: error %d, want %d", i, who, why, no)
			}
			errs[why]++
			if why != api.OK {
				continue
			}
			if was := v.Threads[who]; was.Pc < len(was.Code) {
				kinds[was.Code[was.Pc].Kind]++
			}
			if got.Threads[who].Halted {
				halts++
			}
		}
	}
	if halts < 200 || len(kinds) != 7 || errs[api.OK] < 1000 || errs[api.ErrState] < 200 || errs[api.ErrTask] < 1000 || len(errs) != 3 {
		t.Error(halts, errs, kinds)
	}
}

// lone is a machine with one thread that is at the second instruction of three, which is x.
func lone(x api.Instr, regs ...api.Reg) api.Vm {
	r := sample.ThreeLists()
	r.Mutators = []api.Mutator{sample.Mutator(regs...)}
	return sample.Vm(r, []api.Thread{{Code: []api.Instr{{Kind: api.InstrHalt}, x, {Kind: api.InstrHalt}}, Pc: 1, Steps: 5}})
}

// TestInstructions: each instruction does what is said of it, and nothing else.
func TestInstructions(t *testing.T) {
	num, ref := sample.Num, sample.Ref
	const top = math.MaxUint64
	add := func(a, b int) api.Instr { return api.Instr{Kind: api.InstrAdd, A: a, B: b} }
	sub := func(a, b int) api.Instr { return api.Instr{Kind: api.InstrSub, A: a, B: b} }
	zero := func(a, to int) api.Instr { return api.Instr{Kind: api.InstrZero, A: a, To: to} }
	equal := func(a, b, to int) api.Instr { return api.Instr{Kind: api.InstrSame, A: a, B: b, To: to} }
	type regs = []api.Reg
	for i, x := range []struct {
		instr api.Instr
		regs  regs
		pc    int
		want  regs
		why   api.Errno
	}{
		{add(0, 1), regs{num(2), num(3)}, 2, regs{num(5), num(3)}, api.OK}, {add(1, 0), regs{num(2), num(3)}, 2, regs{num(2), num(5)}, api.OK}, {add(2, 2), regs{ref(0), ref(16), num(7)}, 2, regs{ref(0), ref(16), num(14)}, api.OK},
		{add(3, 0), regs{num(top), num(0), num(0), num(1)}, 2, regs{num(top), num(0), num(0), num(0)}, api.OK}, {add(0, 0), regs{num(1<<63 + 1)}, 2, regs{num(2)}, api.OK}, {add(0, 1), regs{num(top), num(top)}, 2, regs{num(top - 1), num(top)}, api.OK},
		{add(0, 1), regs{ref(0), num(1)}, 1, regs{ref(0), num(1)}, api.ErrType}, {add(0, 1), regs{num(1), ref(0)}, 1, regs{num(1), ref(0)}, api.ErrType}, {add(0, 1), regs{ref(16), num(1)}, 1, regs{ref(16), num(1)}, api.ErrType}, {add(0, 1), regs{num(1), ref(16)}, 1, regs{num(1), ref(16)}, api.ErrType}, {add(0, 0), regs{ref(16)}, 1, regs{ref(16)}, api.ErrType}, {add(2, 3), regs{num(0), num(0), ref(0), ref(0)}, 1, regs{num(0), num(0), ref(0), ref(0)}, api.ErrType},
		{sub(0, 1), regs{num(5), num(3)}, 2, regs{num(2), num(3)}, api.OK}, {sub(1, 0), regs{num(5), num(3)}, 2, regs{num(5), num(top - 1)}, api.OK}, {sub(3, 3), regs{num(1), num(1), num(1), num(9)}, 2, regs{num(1), num(1), num(1), num(0)}, api.OK}, {sub(0, 1), regs{num(0), num(1)}, 2, regs{num(top), num(1)}, api.OK}, {sub(0, 1), regs{num(0), num(top)}, 2, regs{num(1), num(top)}, api.OK},
		{sub(0, 1), regs{ref(0), num(1)}, 1, regs{ref(0), num(1)}, api.ErrType}, {sub(0, 1), regs{num(1), ref(18)}, 1, regs{num(1), ref(18)}, api.ErrType}, {sub(0, 0), regs{ref(0)}, 1, regs{ref(0)}, api.ErrType},
		{api.Instr{Kind: api.InstrJump}, regs{num(1)}, 0, regs{num(1)}, api.OK}, {api.Instr{Kind: api.InstrJump, To: 1}, regs{ref(16)}, 1, regs{ref(16)}, api.OK}, {api.Instr{Kind: api.InstrJump, To: 3}, nil, 3, nil, api.OK},
		{zero(0, 3), regs{num(0), num(1)}, 3, regs{num(0), num(1)}, api.OK}, {zero(0, 0), regs{ref(0)}, 0, regs{ref(0)}, api.OK}, {zero(0, 0), regs{num(1), num(0)}, 2, regs{num(1), num(0)}, api.OK}, {zero(1, 0), regs{num(0), ref(16)}, 2, regs{num(0), ref(16)}, api.OK}, {zero(3, 1), regs{num(1), num(1), num(1), num(0)}, 1, regs{num(1), num(1), num(1), num(0)}, api.OK}, {zero(0, 0), regs{num(top)}, 2, regs{num(top)}, api.OK},
		{equal(0, 1, 3), regs{num(7), num(7)}, 3, regs{num(7), num(7)}, api.OK}, {equal(0, 1, 0), regs{num(7), num(8)}, 2, regs{num(7), num(8)}, api.OK}, {equal(0, 1, 0), regs{ref(16), ref(16)}, 0, regs{ref(16), ref(16)}, api.OK}, {equal(0, 1, 0), regs{ref(16), ref(18)}, 2, regs{ref(16), ref(18)}, api.OK},
		{equal(0, 1, 0), regs{ref(16), num(16)}, 2, regs{ref(16), num(16)}, api.OK}, {equal(0, 1, 0), regs{num(16), ref(16)}, 2, regs{num(16), ref(16)}, api.OK}, {equal(0, 1, 0), regs{num(0), ref(0)}, 2, regs{num(0), ref(0)}, api.OK}, {equal(0, 1, 0), regs{ref(0), ref(0)}, 0, regs{ref(0), ref(0)}, api.OK}, {equal(2, 2, 1), regs{num(0), num(1), ref(20)}, 1, regs{num(0), num(1), ref(20)}, api.OK}, {equal(3, 1, 0), regs{num(1), num(4), num(1), num(4)}, 0, regs{num(1), num(4), num(1), num(4)}, api.OK},
		{sample.Do(api.Op{Kind: api.OpConst, A: 2, W: top}), regs{num(1)}, 2, regs{num(1), num(0), num(top)}, api.OK}, {sample.Do(api.Op{Kind: api.OpMove, A: 1, B: 0}), regs{ref(16)}, 2, regs{ref(16), ref(16)}, api.OK}, {sample.Do(api.Op{Kind: api.OpGc}), regs{num(1)}, 2, regs{num(1)}, api.OK},
		{sample.Do(api.Op{Kind: api.OpLoad, A: 1, B: 0}), regs{ref(0)}, 1, regs{ref(0)}, api.ErrNil}, {sample.Do(api.Op{Kind: api.OpLoad, A: 1, B: 0, Field: 47}), regs{ref(16)}, 1, regs{ref(16)}, api.ErrField}, {sample.Do(api.Op{Kind: api.OpStore, A: 0, B: 1}), regs{ref(16), num(5)}, 1, regs{ref(16), num(5)}, api.ErrType}, {sample.Do(api.Op{Kind: api.OpUpgrade, A: 0, B: 1}), regs{num(1), num(9)}, 1, regs{num(1), num(9)}, api.ErrNone},
	} {
		v := lone(x.instr, x.regs...)
		got, why := vm.Step(v, 0)
		want := sample.CopyVm(v)
		want.Threads[0].Steps, want.Threads[0].Pc, want.Threads[0].Halted, want.Threads[0].Err = 6, x.pc, x.why != api.OK, x.why
		want.Runtime.Mutators[0] = sample.Mutator(x.want...)
		if x.instr.Op.Kind == api.OpGc {
			want.Runtime.Gc = got.Runtime.Gc
		}
		if !same(got, want) || why != api.OK {
			t.Errorf("case %d, %v: %v, %v, error %d", i, x.instr, got.Threads[0], got.Runtime.Mutators, why)
		}
	}
}

// TestStepOps: an operation is that of the thread's own mutator, and what it does to the heap is there then.
func TestStepOps(t *testing.T) {
	store := []api.Instr{sample.Do(api.Op{Kind: api.OpNew, A: 1, Shape: api.Shape{N: 2, Mask: 1}}), sample.Do(api.Op{Kind: api.OpStore, A: 1, B: 1}), sample.Do(api.Op{Kind: api.OpLoad, A: 3, B: 1})}
	v, _ := vm.Make(4, 1, nil, store, store)
	for i, who := range []int{2, 2, 1, 2, 1, 1} {
		var why api.Errno
		if v, why = vm.Step(v, who); why != api.OK {
			t.Error(i, why)
		}
	}
	want := []api.Mutator{sample.Mutator(), sample.Mutator(sample.Num(0), sample.Ref(20), sample.Num(0), sample.Ref(20)), sample.Mutator(sample.Num(0), sample.Ref(16), sample.Num(0), sample.Ref(16))}
	for who, m := range v.Runtime.Mutators {
		if !slices.Equal(m.Regs, want[who].Regs) {
			t.Error(who, m)
		}
	}
	if w := v.Runtime.Gc.Marker.Heap.Arena.Words; w[17] != 16 || w[21] != 20 {
		t.Error(w[16:24])
	}
}

// TestStepEnds: a thread ends at the end of its program, or where that says so, and stays there; after that it executes no step.
func TestStepEnds(t *testing.T) {
	halt := api.Instr{Kind: api.InstrHalt}
	for i, x := range []struct {
		code []api.Instr
		pc   int
	}{{nil, 0}, {[]api.Instr{halt}, 0}, {[]api.Instr{halt}, 1}, {[]api.Instr{halt, halt}, 1}, {[]api.Instr{{Kind: api.InstrJump}}, 1}, {sample.SumProgram(), 7}, {sample.SumProgram(), 8}} {
		v := sample.Vm(sample.ThreeLists(), []api.Thread{{}, {Code: x.code, Pc: x.pc, Steps: 2}})
		want := sample.CopyVm(v)
		want.Threads[1].Halted, want.Threads[1].Steps = true, 3
		got, why := vm.Step(v, 1)
		if !same(got, want) || why != api.OK {
			t.Errorf("case %d: %v, error %d", i, got.Threads, why)
		}
		if got, why := vm.Step(got, 1); !same(got, want) || why != api.ErrState {
			t.Errorf("case %d, again: %v, error %d", i, got.Threads, why)
		}
	}
	// There is no greatest number of steps: it wraps round.
	v := sample.Vm(sample.ThreeLists(), []api.Thread{{Code: []api.Instr{{Kind: api.InstrJump}}, Steps: math.MaxUint64}, {}})
	if got, why := vm.Step(v, 0); got.Threads[0].Steps != 0 || why != api.OK {
		t.Error(got.Threads, why)
	}
}

// 25.3

// sometimes are tasks of all kinds, and what are none.
func sometimes() []api.Task {
	out := []api.Task{{}, {Kind: api.TaskCount}, {Kind: 255, Who: math.MinInt}}
	for _, e := range sample.Singles()[4:] {
		out = append(out, e.Task)
	}
	for _, who := range []int{math.MinInt, -1, 4, 5, math.MaxInt} {
		for kind := range api.TaskCount {
			out = append(out, api.Task{Kind: kind, Who: who})
		}
	}
	return out
}

func TestTask(t *testing.T) {
	right, refused := map[api.TaskKind]int{}, 0
	for i, v := range vms(256, 100) {
		for _, task := range sometimes() {
			want, wanted, no := tasked(v, task)
			got, ran, why := vm.Task(v, task)
			if !same(got, want) || !sample.SameRan(ran, wanted) || why != no || vm.Check(got) != api.OK {
				t.Fatalf("machine %d, %v: %v, error %d; want %v, %d", i, task, ran, why, wanted, no)
			}
			if why == api.OK {
				right[task.Kind]++
			} else {
				refused++
			}
		}
	}
	if len(right) != 6 || right[api.TaskRun] < 50 || refused < 1000 {
		t.Error(right, refused)
	}
}

// TestRan: what TaskRun runs is answered, and appended to what was run; of that the last 256 are remembered. Other tasks append nothing.
func TestRan(t *testing.T) {
	for _, n := range []int{0, 1, 254, 255, 256} {
		v := sample.Vm(sample.BusyRuntime(), make([]api.Thread, 3), sample.SomeRans(n)...)
		want := sample.CopyVm(v).Ran
		for i, item := range v.Runtime.Gc.Queue {
			v, _, _ = vm.Task(v, api.Task{Kind: api.TaskScan, Who: i % 3})
			wanted := api.Ran{Item: item}
			if item.Kind == api.SpecialFinal {
				wanted.Fields = []uint64{[]uint64{24, 0, 0, 0}[i]}
			}
			got, ran, why := vm.Task(v, api.Task{Kind: api.TaskRun})
			want = append(want, wanted)
			want = want[max(0, len(want)-256):]
			if !sample.SameRan(ran, wanted) || !slices.EqualFunc(got.Ran, want, sample.SameRan) || why != api.OK {
				t.Errorf("%d were run, item %d: %v, error %d", n, i, ran, why)
			}
			v = got
		}
		got, ran, why := vm.Task(v, api.Task{Kind: api.TaskRun})
		if !same(got, v) || !sample.SameRan(ran, api.Ran{}) || why != api.ErrNone {
			t.Errorf("%d were run, and nothing waits: %v, error %d", n, ran, why)
		}
	}
}

// someEvents are events as they come, some of which are refused whatever the machine is.
func someEvents(p *sample.Picks, count, most int) []api.Event {
	l := sample.SomeEvents(p, count, most)
	for i := range l {
		switch p.Below(20) {
		case 0:
			l[i].Times = 0
		case 1:
			l[i].Who = whos()[p.Below(len(whos()))]
		case 2:
			l[i].Task = sometimes()[p.Below(len(sometimes()))]
		case 3:
			l[i].Thread = !l[i].Thread
		}
	}
	return l
}

func TestPlay(t *testing.T) {
	p := sample.Picks(257)
	sum, asked := 0, 0
	for i, v := range vms(258, 600) {
		l := someEvents(&p, p.Below(25), []int{1, 3, 20}[i%3])
		want, steps, _ := played(v, l...)
		got, n, why := vm.Play(v, l...)
		if !same(got, want) || n != steps || why != api.OK || vm.Check(got) != api.OK {
			t.Fatalf("machine %d, %v: %d, error %d; want %d", i, l, n, why, steps)
		}
		sum += n
		for _, e := range l {
			asked += e.Times
		}
	}
	if sum < 2000 || sum > asked-2000 {
		t.Error(sum, asked)
	}
}

// TestPlayRange: there are at most 4096 events, and each happens at most 4096 times; otherwise nothing happens at all.
func TestPlayRange(t *testing.T) {
	loop := []api.Instr{{Kind: api.InstrJump}}
	v, _ := vm.Make(2, 1, loop)
	turn := sample.Turn(0, 1)
	refused := func(l []api.Event) {
		t.Helper()
		if got, n, why := vm.Play(v, l...); !same(got, v) || n != 0 || why != api.ErrRange {
			t.Errorf("%d events: %d, error %d", len(l), n, why)
		}
	}
	for _, times := range append(sample.Ints(), -2, 4098, 8192, 1<<32+1) {
		for _, e := range []api.Event{sample.Turn(0, times), sample.Turn(9, times), sample.Tasked(api.TaskStart, 0, times), {Times: times}} {
			refused([]api.Event{e})
			refused([]api.Event{turn, turn, e})
			refused([]api.Event{e, turn})
			refused(append(slices.Repeat([]api.Event{turn}, 4095), e))
		}
	}
	for _, n := range []int{4097, 4098, 10000} {
		refused(slices.Repeat([]api.Event{turn}, n))
		refused(make([]api.Event, n))
	}
	for n, l := range map[uint64][]api.Event{
		0: {{}, sample.Turn(0, 0)}, 1: {turn}, 4096: slices.Repeat([]api.Event{turn}, 4096), 4095: {sample.Turn(0, 4095)}, 8193: {sample.Turn(0, 4096), turn, sample.Turn(0, 4096)},
		1 << 24: slices.Repeat([]api.Event{sample.Turn(0, 4096)}, 4096),
	} {
		got, steps, why := vm.Play(v, l...)
		if steps != int(n) || why != api.OK || got.Threads[0].Steps != n {
			t.Error(n, steps, why, got.Threads)
		}
	}
}

// TestPlayRefused: when an event is refused, it does not happen any more, and the next one does. A thread that is Halted by an error executed that step.
func TestPlayRefused(t *testing.T) {
	v, _ := vm.Make(4, 2, sample.SumProgram(), sample.WrongProgram())
	start, work := sample.Tasked(api.TaskStart, 0, 9), sample.Tasked(api.TaskWork, 0, 9)
	for i, x := range []struct {
		l    []api.Event
		want int
	}{
		{nil, 0}, {[]api.Event{start}, 1}, {[]api.Event{start, start, work, start}, 1}, {[]api.Event{sample.Turn(2, 5), sample.Turn(-1, 5), sample.Turn(0, 5)}, 5}, {[]api.Event{sample.Turn(1, 3)}, 3}, {[]api.Event{sample.Turn(1, 4096), sample.Turn(1, 4096)}, 3},
		{[]api.Event{{Times: 7}, {Task: api.Task{Kind: 99}, Times: 7}, sample.Turn(0, 2)}, 2}, {[]api.Event{sample.Turn(0, 4096), start, sample.Tasked(api.TaskScan, 1, 4), sample.Tasked(api.TaskScan, 0, 4), sample.Tasked(api.TaskScan, 2, 4), work, sample.Tasked(api.TaskFinish, 0, 9)}, 43 + 1 + 2 + 2},
		{[]api.Event{{Thread: true, Who: 0, Task: api.Task{Kind: api.TaskStart}, Times: 1}, {Who: 1, Task: api.Task{Kind: api.TaskStart}, Times: 1}}, 2},
	} {
		got, n, why := vm.Play(v, x.l...)
		want, _, _ := played(v, x.l...)
		if n != x.want || why != api.OK || !same(got, want) {
			t.Errorf("case %d: %d, error %d; want %d", i, n, why, x.want)
		}
	}
}

// 25.4

func TestRest(t *testing.T) {
	p := sample.Picks(259)
	early, ran := 0, 0
	for i, v := range vms(260, 60) {
		steps := p.Below(9)
		if i%20 == 0 {
			steps += 50
		}
		want, rounds, _ := rested(v, steps)
		got, n, why := vm.Rest(v, steps)
		if !same(got, want) || n != rounds || why != api.OK || vm.Check(got) != api.OK {
			t.Fatalf("machine %d, %d rounds: %d, error %d; want %d", i, steps, n, why, rounds)
		}
		if n < steps {
			early++
		}
		if len(v.Runtime.Gc.Queue) > 0 && n > 0 {
			ran++
		}
	}
	if early < 20 || ran < 20 {
		t.Error(early, ran)
	}
}

func TestRestRange(t *testing.T) {
	v, _ := vm.Make(2, 1, []api.Instr{{Kind: api.InstrJump}}, nil)
	ended := sample.CopyVm(v)
	for i := range ended.Threads {
		ended.Threads[i].Halted = true
	}
	for _, steps := range append(sample.Ints(), -2, 4098, 8192, 1<<32+1) {
		for _, v := range []api.Vm{v, ended} {
			if got, n, why := vm.Rest(v, steps); !same(got, v) || n != 0 || why != api.ErrRange {
				t.Error(steps, n, why)
			}
		}
	}
	for _, steps := range []int{0, 1, 2, 5, 4095, 4096} {
		if got, n, why := vm.Rest(v, steps); n != steps || why != api.OK || got.Threads[0].Steps != uint64(steps) || got.Threads[1].Steps != uint64(min(1, steps)) {
			t.Error(steps, n, why, got.Threads)
		}
		if got, n, why := vm.Rest(ended, steps); !same(got, ended) || n != 0 || why != api.OK {
			t.Error(steps, n, why)
		}
	}
}

// TestRestEnds: the round in which the last thread ends is executed to its end, and it is the last one.
func TestRestEnds(t *testing.T) {
	v, _ := vm.Make(4, 1, nil, sample.SumProgram())
	got, n, why := vm.Rest(v, 100)
	if n != 43 || why != api.OK || got.Threads[0].Steps != 1 || got.Threads[1].Steps != 43 || got.Runtime.Mutators[1].Regs[2] != sample.Num(55) {
		t.Error(n, why, got.Threads)
	}
	// In the only round of this one: a step, the start, the scan, and a step of ending the marking.
	v, _ = vm.Make(4, 1, nil)
	got, n, why = vm.Rest(v, 7)
	if n != 1 || why != api.OK || got.Runtime.Gc.Phase != api.PhaseLate || !got.Threads[0].Halted {
		t.Error(n, why, got.Runtime.Gc.Phase)
	}
}

// TestChapter: the chapter's own examples.
func TestChapter(t *testing.T) {
	if got, why := vm.Make(8, 2); !same(got, api.Vm{}) || why != api.ErrRange {
		t.Error("Make:", why)
	}
	if got, why := vm.Make(8, 2, sample.SumProgram(), []api.Instr{{}}); !same(got, api.Vm{}) || why != api.ErrForm {
		t.Error("Make:", why)
	}
	start, why := vm.Make(8, 2, sample.SumProgram(), sample.WrongProgram())
	if why != api.OK {
		t.Fatal("Make:", why)
	}
	v, n, why := vm.Play(start, sample.Turn(0, 100), sample.Turn(1, 9))
	if n != 46 || why != api.OK {
		t.Error("Play:", n, why)
	}
	if sum := v.Threads[0]; sum.Steps != 43 || !sum.Halted || sum.Err != api.OK || v.Runtime.Mutators[0].Regs[2] != sample.Num(55) {
		t.Error("the first program:", sum, v.Runtime.Mutators[0])
	}
	if wrong := v.Threads[1]; wrong.Steps != 3 || !wrong.Halted || wrong.Err != api.ErrType || wrong.Pc != 2 {
		t.Error("the second program:", wrong)
	}
	if got, why := vm.Step(v, 0); !same(got, v) || why != api.ErrState {
		t.Error("Step:", why)
	}
	if got, why := vm.Step(v, 2); !same(got, v) || why != api.ErrTask {
		t.Error("Step:", why)
	}
	if got, n, why := vm.Rest(v, 5); !same(got, v) || n != 0 || why != api.OK {
		t.Error("Rest:", n, why)
	}
	if got, ran, why := vm.Task(v, api.Task{Kind: api.TaskStart}); got.Runtime.Gc.Phase != api.PhaseMark || !sample.SameRan(ran, api.Ran{}) || why != api.OK {
		t.Error("Task:", ran, why)
	}
	five := []api.Instr{sample.Do(api.Op{Kind: api.OpConst, W: 2}), sample.Do(api.Op{Kind: api.OpConst, A: 1, W: 3}), {Kind: api.InstrAdd, B: 1}, {Kind: api.InstrHalt}}
	v, _ = vm.Make(1, 1, five)
	for range 4 {
		if v, why = vm.Step(v, 0); why != api.OK {
			t.Error("Step:", why)
		}
	}
	if v.Runtime.Mutators[0].Regs[0] != sample.Num(5) || !v.Threads[0].Halted {
		t.Error(v.Runtime.Mutators, v.Threads)
	}
}
