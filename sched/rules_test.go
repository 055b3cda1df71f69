package sched_test

import (
	"runtime"
	"slices"
	"testing"

	"besom/api"
	"besom/sample"
	"besom/sched"
)

// answer is what a call answers: a runtime and, of some, what was run.
type answer struct {
	r   api.Runtime
	ran api.Ran
}

func (a answer) like(b answer) bool {
	return same(a.r, b.r) && sample.SameRan(a.ran, b.ran)
}

func (a answer) twin() answer {
	return answer{sample.CopyRuntime(a.r), api.Ran{Item: a.ran.Item, Fields: slices.Clone(a.ran.Fields)}}
}

// spoils are functions each of which changes one list of an answer, and what lies behind its end.
func (a answer) spoils() []func() {
	return append(sample.SpoilsOfRuntime(a.r), sample.SpoilWords(a.ran.Fields))
}

// calls are all calls that answer a runtime.
func calls() map[string]func(r api.Runtime) answer {
	do := func(t api.Task) func(r api.Runtime) answer {
		return func(r api.Runtime) answer {
			out, ran, _ := sched.Do(r, t)
			return answer{out, ran}
		}
	}
	return map[string]func(r api.Runtime) answer{
		"Make": func(r api.Runtime) answer {
			out, _ := sched.Make(4, 2, 3)
			return answer{out, api.Ran{}}
		},
		"Cycle": func(r api.Runtime) answer {
			out, _, _ := sched.Cycle(r)
			return answer{out, api.Ran{}}
		},
		"TaskNone":         do(api.Task{}),
		"TaskStart":        do(api.Task{Kind: api.TaskStart}),
		"TaskScan":         do(api.Task{Kind: api.TaskScan}),
		"TaskScan, nobody": do(api.Task{Kind: api.TaskScan, Who: -1}),
		"TaskWork":         do(api.Task{Kind: api.TaskWork}),
		"TaskWork, nobody": do(api.Task{Kind: api.TaskWork, Who: 4}),
		"TaskFinish":       do(api.Task{Kind: api.TaskFinish}),
		"TaskSweep":        do(api.Task{Kind: api.TaskSweep}),
		"TaskRun":          do(api.Task{Kind: api.TaskRun}),
	}
}

// arguments are runtimes with which each call succeeds, and others with which it is refused.
func arguments() []api.Runtime {
	idle, last := sample.ThreeLists(), sample.BusyRuntime()
	idle.Gc.Queue = []api.Item{sample.FinalItem(20, 1), sample.CleanItem(2)}
	overfull := sample.ThreeLists()
	overfull.Gc.Queue = slices.Repeat([]api.Item{sample.CleanItem(1)}, 256)
	for i := range last.Mutators {
		last.Mutators[i] = sample.Scanned(sample.Mutator(sample.Ref(16), sample.Ref(24)))
	}
	late := sample.CopyRuntime(last)
	late.Gc.Phase, late.Gc.Weak = api.PhaseLate, nil
	late.Gc.Marker = sample.On(late.Gc.Marker.Heap, make([]api.Hand, 2))
	late.Gc.Table = api.Ephem{}
	swept := sample.Runtime(sample.ThreeLarge(), sample.Mutator())
	return []api.Runtime{idle, sample.BusyRuntime(), last, late, overfull, swept}
}

// TestArguments: among the arguments is one for each task.
func TestArguments(t *testing.T) {
	counts := map[api.TaskKind]int{}
	for i, r := range arguments() {
		if !valid(r) {
			t.Errorf("argument %d is not valid", i)
		}
		for _, task := range possible(r) {
			counts[task.Kind]++
		}
	}
	if len(counts) != 6 {
		t.Error(counts)
	}
}

// trial tries the calls with these arguments.
func trial() sample.Trial[api.Runtime, answer] {
	return sample.Trial[api.Runtime, answer]{
		Calls: calls(), Arguments: arguments(), Roomy: sample.RoomyRuntime,
		SpoilsOf: sample.SpoilsOfRuntime, Spoils: answer.spoils, Same: same, Like: answer.like, Twin: answer.twin,
	}
}

// 18.4

func TestNewMemory(t *testing.T) {
	some := trial()
	some.Arguments = append(some.Arguments, runtimes(100)...)
	for _, fault := range some.Memory() {
		t.Error(fault)
	}
}

// TestListsApart: no two lists of an answer share memory, not even behind their ends, whether or not those of the argument do.
func TestListsApart(t *testing.T) {
	for _, fault := range trial().Lists(sample.WovenRuntimes()...) {
		t.Error(fault)
	}
}

// TestReaders: what only asks changes nothing, and answers a list of its own.
func TestReaders(t *testing.T) {
	for i, start := range arguments() {
		r, rest := sample.RoomyRuntime(start)
		sched.Check(r)
		l, _ := sched.Tasks(r)
		roots, _ := sched.Roots(r)
		for k := range l {
			l[k].Who += 1000
		}
		sample.SpoilWords(roots)()
		if !same(r, start) || !rest() {
			t.Error(i, r)
		}
		again, _ := sched.Tasks(r)
		if others, _ := sched.Roots(r); !slices.Equal(again, possible(start)) || slices.ContainsFunc(others, func(addr uint64) bool { return addr > 1000 }) {
			t.Error(i, again, others)
		}
	}
}

// The document's rules

// TestNilIsEmpty: a nil list and an empty one are the same to every call (P1).
func TestNilIsEmpty(t *testing.T) {
	for _, phase := range []api.Phase{api.PhaseIdle, api.PhaseMark, api.PhaseLate, api.PhaseSweep} {
		g, bare := sample.BareGcs(phase)
		one := sample.Mutator()
		one.Scanned = phase == api.PhaseLate
		nils, empties := api.Runtime{Gc: g, Mutators: []api.Mutator{one}}, api.Runtime{Gc: bare, Mutators: []api.Mutator{one}}
		for name, call := range calls() {
			if a, b := call(nils), call(empties); !a.like(b) {
				t.Error(name, a, b)
			}
		}
		a, why := sched.Tasks(nils)
		b, no := sched.Tasks(empties)
		if len(a) != 1 || !slices.Equal(a, b) || why != api.OK || no != api.OK {
			t.Error("phase", phase, a, b, why, no)
		}
		for _, r := range []api.Runtime{nils, empties} {
			if l, why := sched.Roots(r); len(l) != 0 || why != api.OK {
				t.Error("phase", phase, l, why)
			}
			none, nobody := r, r
			none.Mutators, nobody.Mutators = nil, []api.Mutator{}
			if sched.Check(none) != api.ErrForm || sched.Check(nobody) != api.ErrForm {
				t.Error("phase", phase, "without mutators")
			}
		}
	}
}

// TestArgumentsAlone: the same arguments have the same answers, whatever came before and whatever room is behind them (P3).
func TestArgumentsAlone(t *testing.T) {
	for _, fault := range trial().Again() {
		t.Error(fault)
	}
}

// TestNoGoroutine: when a call has answered, no goroutine of it is left (P4).
func TestNoGoroutine(t *testing.T) {
	before := runtime.NumGoroutine()
	for _, r := range arguments() {
		for _, call := range calls() {
			call(r)
		}
		sched.Check(r)
		sched.Tasks(r)
		sched.Roots(r)
	}
	// Fewer are no fault: the goroutine of an earlier test may have ended meanwhile.
	if after := runtime.NumGoroutine(); after > before {
		t.Errorf("%d goroutines, and %d before", after, before)
	}
}
