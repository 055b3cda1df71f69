package vm_test

import (
	"runtime"
	"slices"
	"strconv"
	"testing"

	"besom/api"
	"besom/sample"
	"besom/vm"
)

// answer is what a call answers.
type answer struct {
	v   api.Vm
	ran api.Ran
	n   int
}

func (a answer) like(b answer) bool {
	return same(a.v, b.v) && sample.SameRan(a.ran, b.ran) && a.n == b.n
}

func (a answer) twin() answer {
	return answer{sample.CopyVm(a.v), sample.CopyRan(a.ran), a.n}
}

// spoils are functions each of which changes one list of an answer, and what lies behind its end.
func (a answer) spoils() []func() {
	return append(sample.SpoilsOfVm(a.v), sample.SpoilWords(a.ran.Fields))
}

// calls are all calls that answer a machine.
func calls() map[string]func(v api.Vm) answer {
	step := func(who int) func(v api.Vm) answer {
		return func(v api.Vm) answer {
			out, _ := vm.Step(v, who)
			return answer{v: out}
		}
	}
	play := func(l ...api.Event) func(v api.Vm) answer {
		return func(v api.Vm) answer {
			out, n, _ := vm.Play(v, l...)
			return answer{v: out, n: n}
		}
	}
	rest := func(steps int) func(v api.Vm) answer {
		return func(v api.Vm) answer {
			out, n, _ := vm.Rest(v, steps)
			return answer{v: out, n: n}
		}
	}
	out := map[string]func(v api.Vm) answer{
		"Make": func(v api.Vm) answer {
			// What is not valid would have no answer.
			out, _ := vm.Make(2, 1, v.Threads[0].Code, v.Threads[0].Code)
			return answer{v: out}
		},
		"Step of -1": step(-1), "Step of 0": step(0), "Step of 1": step(1), "Step of 9": step(9),
		"Play of nothing": play(), "Play of some": play(append(sample.NineEvents()[3:], sample.Turn(0, 3), sample.Turn(9, 1), sample.Turn(1, 2))...), "Play of too many": play(sample.Turn(0, 4097)),
		"Rest of -1": rest(-1), "Rest of 0": rest(0), "Rest of 2": rest(2),
	}
	for kind := range api.TaskCount + 1 {
		out["task "+strconv.Itoa(int(kind))] = func(v api.Vm) answer {
			out, ran, _ := vm.Task(v, api.Task{Kind: kind})
			return answer{v: out, ran: ran}
		}
	}
	return out
}

// arguments are machines with which each call succeeds, and others with which it is refused.
func arguments() []api.Vm {
	idle := sample.ThreeLists()
	idle.Mutators[0] = sample.Mutator(sample.Ref(16), sample.Ref(18), sample.Num(3), sample.Num(1))
	idle.Gc.Table, idle.Gc.Weak = sample.Pairs(8, 16, 20, 18, 16), []uint64{20, 16}
	idle.Gc.Queue = []api.Item{sample.FinalItem(20, 1), sample.CleanItem(2)}
	late := sample.Runtime(sample.SixMarked(api.PhaseLate, 16, 20, 22, 24), sample.Scanned(sample.Mutator(sample.Ref(16), sample.Ref(20))))
	late.Gc.Table, late.Gc.Queue = api.Ephem{}, []api.Item{sample.FinalItem(22, 4)}
	halted := api.Thread{Code: sample.FiveInstrs(), Pc: 2, Halted: true, Err: api.ErrNil}
	out := []api.Vm{
		sample.Vm(idle, []api.Thread{{Code: sample.SumProgram(), Pc: 3}, {Code: sample.WrongProgram()}}), sample.Vm(idle, []api.Thread{halted, halted}, sample.SomeRans(256)...), sample.Vm(idle, []api.Thread{{}, {Code: sample.FiveInstrs()}}, sample.SomeRans(255)...),
		sample.Vm(late, []api.Thread{{Code: sample.SumProgram(), Pc: 1}}, sample.SomeRans(3)...), sample.Vm(sample.BusyRuntime(), make([]api.Thread, 3), sample.SomeRans(5)...), sample.Vm(sample.Runtime(sample.ThreeLarge(), sample.Mutator()), []api.Thread{{Code: sample.WrongProgram(), Pc: 1}}, sample.SomeRans(7)...),
	}
	for _, x := range sample.Instrs(1) {
		code := []api.Instr{x}
		out = append(out, sample.Vm(idle, []api.Thread{{Code: code}, {Code: code}}, sample.SomeRans(2)...))
	}
	return out
}

// TestArguments: with one of the arguments each kind of instruction, of operation and of task succeeds, and with some an instruction is refused.
func TestArguments(t *testing.T) {
	kinds, ops, tasks := map[api.InstrKind]bool{}, map[api.OpKind]bool{}, map[api.TaskKind]bool{}
	wrong := 0
	for i, v := range arguments() {
		if why := vm.Check(v); why != api.OK {
			t.Errorf("argument %d: error %d", i, why)
		}
		for who, was := range v.Threads {
			got, why := vm.Step(v, who)
			if why != api.OK || was.Pc == len(was.Code) {
				continue
			}
			if got.Threads[who].Err != api.OK {
				wrong++
				continue
			}
			x := was.Code[was.Pc]
			kinds[x.Kind], ops[x.Op.Kind] = true, true
		}
		for kind := range api.TaskCount {
			if _, _, why := vm.Task(v, api.Task{Kind: kind}); why == api.OK {
				tasks[kind] = true
			}
		}
	}
	// What is no InstrDo has the operation OpNone.
	if len(kinds) != 7 || len(ops) != 15 || len(tasks) != 6 || wrong < 20 {
		t.Error(kinds, ops, tasks, wrong)
	}
}

// trial tries the calls with these arguments.
func trial() sample.Trial[api.Vm, answer] {
	return sample.Trial[api.Vm, answer]{
		Calls: calls(), Arguments: arguments(), Roomy: sample.RoomyVm,
		SpoilsOf: sample.SpoilsOfVm, Spoils: answer.spoils, Same: same, Like: answer.like, Twin: answer.twin,
	}
}

// 25.5

func TestNewMemory(t *testing.T) {
	some := trial()
	some.Arguments = append(some.Arguments, vms(281, 30)...)
	for _, fault := range some.Memory() {
		t.Error(fault)
	}
}

// TestListsApart: no two lists of an answer share memory, not even behind their ends, whether or not those of the argument do.
func TestListsApart(t *testing.T) {
	some := trial()
	// The lists of these are so many that it would take long.
	some.Arguments = slices.DeleteFunc(some.Arguments, func(v api.Vm) bool { return len(v.Ran) > 100 })
	for _, fault := range some.Lists(sample.WovenVms()...) {
		t.Error(fault)
	}
}

// TestRanApart: what Task answers of TaskRun is not the memory of what is remembered of it.
func TestRanApart(t *testing.T) {
	for i, v := range arguments() {
		got, ran, _ := vm.Task(v, api.Task{Kind: api.TaskRun})
		want := sample.CopyVm(got)
		sample.SpoilWords(ran.Fields)()
		if !same(got, want) {
			t.Error(i, got.Ran)
		}
	}
}

// TestOthersUnchanged: programs and events that are handed in are neither changed nor kept.
func TestOthersUnchanged(t *testing.T) {
	code := append(make([]api.Instr, 0, 20), sample.SumProgram()...)
	rest := code[len(code) : len(code)+1]
	rest[0].To = 77
	v, _ := vm.Make(2, 1, code, code[:3])
	want := sample.CopyVm(v)
	l := append(make([]api.Event, 0, 20), sample.NineEvents()[3:]...)
	last := l[len(l) : len(l)+1]
	last[0] = sample.Turn(77, 77)
	got, _, _ := vm.Play(v, l...)
	played := sample.CopyVm(got)
	if !slices.Equal(code, sample.SumProgram()) || rest[0].To != 77 || !slices.Equal(l, sample.NineEvents()[3:]) || last[0] != sample.Turn(77, 77) {
		t.Error(code, rest, l, last)
	}
	clear(code)
	clear(l)
	if !same(v, want) || !same(got, played) {
		t.Error(v.Threads, got.Threads)
	}
}

// TestReaders: what only asks changes nothing.
func TestReaders(t *testing.T) {
	for i, start := range arguments() {
		v, rest := sample.RoomyVm(start)
		vm.Check(v)
		if !same(v, start) || !rest() {
			t.Error(i, v)
		}
	}
}

// The document's rules

// TestNilIsEmpty: a nil list and an empty one are the same to every call (P1).
func TestNilIsEmpty(t *testing.T) {
	for _, phase := range []api.Phase{api.PhaseIdle, api.PhaseMark, api.PhaseLate, api.PhaseSweep} {
		nils, empties := sample.BareVms(phase)
		for name, call := range calls() {
			if a, b := call(nils), call(empties); !a.like(b) || len(a.v.Threads) == 0 {
				t.Error(name, a, b)
			}
		}
		for _, v := range []api.Vm{nils, empties} {
			v.Ran = []api.Ran{{}, {Fields: []uint64{}}}
			if why := vm.Check(v); why != api.OK {
				t.Error("phase", phase, why)
			}
		}
	}
	for _, l := range [][]api.Event{nil, {}} {
		if got, n, why := vm.Play(arguments()[0], l...); !same(got, arguments()[0]) || n != 0 || why != api.OK {
			t.Error(n, why)
		}
	}
	for _, l := range [][][]api.Instr{nil, {}} {
		if got, why := vm.Make(2, 1, l...); !same(got, api.Vm{}) || why != api.ErrRange {
			t.Error(why)
		}
	}
	for _, l := range [][][]api.Instr{{nil}, {{}}} {
		if got, why := vm.Make(2, 1, l...); len(got.Threads) != 1 || why != api.OK {
			t.Error(why)
		}
	}
}

// TestArgumentsAlone: the same arguments have the same answers, whatever came before and whatever room is behind them (P3).
func TestArgumentsAlone(t *testing.T) {
	for _, fault := range trial().Again() {
		t.Error(fault)
	}
}

// TestNoGoroutine: when a call has answered, no goroutine of it is left (P4).
func TestNoGoroutine(t *testing.T) {
	before := runtime.NumGoroutine()
	for _, v := range arguments() {
		for _, call := range calls() {
			call(v)
		}
		vm.Check(v)
	}
	// Fewer are no fault: the goroutine of an earlier test may have ended meanwhile.
	if after := runtime.NumGoroutine(); after > before {
		t.Errorf("%d goroutines, and %d before", after, before)
	}
}
