package mut_test

import (
	"runtime"
	"slices"
	"strconv"
	"testing"

	"besom/api"
	"besom/mut"
	"besom/sample"
	"besom/sched"
)

// answer is what a call answers.
type answer struct {
	r   api.Runtime
	reg api.Reg
}

func (a answer) like(b answer) bool {
	return same(a.r, b.r) && a.reg == b.reg
}

func (a answer) twin() answer {
	return answer{sample.CopyRuntime(a.r), a.reg}
}

// spoils are functions each of which changes one list of an answer, and what lies behind its end.
func (a answer) spoils() []func() {
	return sample.SpoilsOfRuntime(a.r)
}

// calls are all calls that answer a runtime.
func calls() map[string]func(r api.Runtime) answer {
	do := func(who int, op api.Op) func(r api.Runtime) answer {
		return func(r api.Runtime) answer {
			out, reg, _ := mut.Do(r, who, op)
			return answer{out, reg}
		}
	}
	out := map[string]func(r api.Runtime) answer{
		"Force": func(r api.Runtime) answer {
			out, _ := mut.Force(r)
			return answer{out, api.Reg{}}
		},
		"a mutator that is none":  do(-1, api.Op{Kind: api.OpNil}),
		"a kind that is none":     do(0, api.Op{}),
		"a register that is none": do(0, api.Op{Kind: api.OpMove, B: 4}),
		"too large an object":     do(0, api.Op{Kind: api.OpNew, Shape: api.Shape{N: 49}}),
		"a large object":          do(0, api.Op{Kind: api.OpNew, Shape: api.Shape{N: 48}}),
	}
	for _, kind := range sample.OpKinds() {
		for a := range 2 {
			op := api.Op{Kind: kind, A: a, B: 1 - a, Shape: api.Shape{N: 2, Mask: 2}, W: 9}
			out["kind "+strconv.Itoa(int(kind))+" into "+strconv.Itoa(a)] = do(0, op)
		}
	}
	return out
}

// arguments are runtimes with which each call succeeds, and others with which it is refused.
func arguments() []api.Runtime {
	idle, busy, swept := sample.ThreeLists(), sample.BusyRuntime(), sample.ThreeLists()
	idle.Mutators[0] = sample.Mutator(sample.Ref(16), sample.Ref(18))
	idle.Gc.Table, idle.Gc.Weak = sample.Pairs(8, 16, 20, 18, 16), []uint64{20, 16}
	swept.Gc.Phase = api.PhaseSweep
	numbers := sample.CopyRuntime(idle)
	numbers.Mutators[0].Regs[0], numbers.Mutators[0].Regs[1] = sample.Num(1), sample.Num(2)
	busy.Mutators[0].Regs[1] = sample.Ref(18)
	late := sample.Runtime(sample.SixMarked(api.PhaseLate, 16, 20, 22, 24), sample.Scanned(sample.Mutator(sample.Ref(16), sample.Ref(20))))
	overfull := sample.CopyRuntime(idle)
	overfull.Gc.Queue = slices.Repeat([]api.Item{sample.CleanItem(1)}, 256)
	return []api.Runtime{idle, numbers, busy, late, swept, overfull, crowded(), crowded(sample.Ref(16), sample.Ref(32))}
}

// TestArguments: with one of the arguments each kind of operation succeeds.
func TestArguments(t *testing.T) {
	kinds := map[api.OpKind]bool{}
	for i, r := range arguments() {
		if why := sched.Check(r); why != api.OK {
			t.Errorf("argument %d: error %d", i, why)
		}
		for _, kind := range sample.OpKinds() {
			if _, _, why := mut.Do(r, 0, api.Op{Kind: kind, A: 1, B: 0}); why == api.OK {
				kinds[kind] = true
			}
		}
	}
	if len(kinds) != 14 {
		t.Error(kinds)
	}
}

// trial tries the calls with these arguments.
func trial() sample.Trial[api.Runtime, answer] {
	return sample.Trial[api.Runtime, answer]{
		Calls: calls(), Arguments: arguments(), Roomy: sample.RoomyRuntime,
		SpoilsOf: sample.SpoilsOfRuntime, Spoils: answer.spoils, Same: same, Like: answer.like, Twin: answer.twin,
	}
}

// 19.3

func TestNewMemory(t *testing.T) {
	some := trial()
	some.Arguments = append(some.Arguments, runtimes(60)...)
	for _, fault := range some.Memory() {
		t.Error(fault)
	}
}

// TestListsApart: no two lists of an answer share memory, not even behind their ends, whether or not those of the argument do.
func TestListsApart(t *testing.T) {
	for _, fault := range trial().Lists(sample.WovenRuntimes()...) {
		t.Error(fault)
	}
}

// TestReaders: what only asks changes nothing.
func TestReaders(t *testing.T) {
	for i, start := range arguments() {
		r, rest := sample.RoomyRuntime(start)
		for reg := range 5 {
			mut.Reg(r, 0, reg)
		}
		if !same(r, start) || !rest() {
			t.Error(i, r)
		}
	}
}

// The document's rules

// TestNilIsEmpty: a nil list and an empty one are the same to every call (P1).
func TestNilIsEmpty(t *testing.T) {
	for _, phase := range []api.Phase{api.PhaseIdle, api.PhaseMark, api.PhaseLate, api.PhaseSweep} {
		g, bare := sample.BareGcs(phase)
		one := sample.Mutator(sample.Num(0), sample.Ref(0))
		one.Scanned = phase == api.PhaseLate
		nils, empties := api.Runtime{Gc: g, Mutators: []api.Mutator{one}}, api.Runtime{Gc: bare, Mutators: []api.Mutator{one}}
		for name, call := range calls() {
			if a, b := call(nils), call(empties); !a.like(b) || len(a.r.Mutators) != 1 {
				t.Error(name, a, b)
			}
		}
		for _, r := range []api.Runtime{nils, empties} {
			if reg, why := mut.Reg(r, 0, 1); reg != sample.Ref(0) || why != api.OK {
				t.Error("phase", phase, reg, why)
			}
			none, nobody := r, r
			none.Mutators, nobody.Mutators = nil, []api.Mutator{}
			for _, r := range []api.Runtime{none, nobody} {
				if _, _, why := mut.Do(r, 0, api.Op{}); why != api.ErrForm {
					t.Error("phase", phase, "without mutators", why)
				}
			}
		}
	}
}

// TestArgumentsAlone: the same arguments have the same answers, whatever came before and whatever room is behind them (P3).
func TestArgumentsAlone(t *testing.T) {
	for _, fault := range trial().Again() {
		t.Error(fault)
	}
}

// TestNoGoroutine: when a call has answered, no goroutine of it is left (P4).
func TestNoGoroutine(t *testing.T) {
	before := runtime.NumGoroutine()
	for _, r := range arguments() {
		for _, call := range calls() {
			call(r)
		}
		mut.Reg(r, 0, 0)
	}
	// Fewer are no fault: the goroutine of an earlier test may have ended meanwhile.
	if after := runtime.NumGoroutine(); after > before {
		t.Errorf("%d goroutines, and %d before", after, before)
	}
}
