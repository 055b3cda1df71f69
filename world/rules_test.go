package world_test

import (
	"runtime"
	"slices"
	"strconv"
	"testing"

	"besom/api"
	"besom/sample"
	"besom/world"
)

// answer is what a call answers.
type answer struct {
	w     api.World
	heard api.Heard
	steps int
}

func (a answer) like(b answer) bool {
	return same(a.w, b.w) && sameHeard(a.heard, b.heard) && a.steps == b.steps
}

func (a answer) twin() answer {
	return answer{sample.CopyWorld(a.w), api.Heard{Reg: a.heard.Reg, Ran: sample.CopyRan(a.heard.Ran)}, a.steps}
}

// spoils are functions each of which changes one list of an answer, and what lies behind its end.
func (a answer) spoils() []func() {
	return append(sample.SpoilsOfWorld(a.w), sample.SpoilWords(a.heard.Ran.Fields))
}

// calls are all calls that answer a world.
func calls() map[string]func(w api.World) answer {
	do := func(p api.Pick) func(w api.World) answer {
		return func(w api.World) answer {
			out, heard, _ := world.Do(w, p)
			return answer{w: out, heard: heard}
		}
	}
	fair := func(rounds int) func(w api.World) answer {
		return func(w api.World) answer {
			out, steps, _ := world.Fair(w, rounds)
			return answer{w: out, steps: steps}
		}
	}
	out := map[string]func(w api.World) answer{
		"New": func(w api.World) answer {
			out, _ := world.New(4, 2, 3)
			return answer{w: out}
		},
		"Fair of -1": fair(-1), "Fair of 0": fair(0), "Fair of 1": fair(1), "Fair of 7": fair(7), "Fair of 65": fair(65),
	}
	for kind := range api.TaskCount + 1 {
		out["task "+strconv.Itoa(int(kind))] = do(api.Pick{Task: api.Task{Kind: kind}})
	}
	for _, kind := range append(sample.OpKinds(), api.OpCount) {
		out["operation "+strconv.Itoa(int(kind))] = do(api.Pick{Mutator: true, Op: api.Op{Kind: kind, A: 1, Shape: api.Shape{N: 2, Mask: 2}, W: 9}})
	}
	return out
}

// arguments are worlds with which each call succeeds, and others with which it is refused.
func arguments() []api.World {
	idle := sample.ThreeLists()
	idle.Mutators[0] = sample.Mutator(sample.Ref(16), sample.Ref(18))
	idle.Gc.Table, idle.Gc.Weak = sample.Pairs(8, 16, 20, 18, 16), []uint64{20, 16}
	idle.Gc.Queue = []api.Item{sample.FinalItem(20, 1), sample.CleanItem(2)}
	numbers := sample.CopyRuntime(idle)
	numbers.Mutators[0].Regs[0] = sample.Num(2)
	late := sample.Runtime(sample.SixMarked(api.PhaseLate, 16, 20, 22, 24), sample.Scanned(sample.Mutator(sample.Ref(16), sample.Ref(20))))
	late.Gc.Table, late.Gc.Queue = api.Ephem{}, []api.Item{sample.FinalItem(22, 4)}
	swept := sample.Runtime(sample.ThreeLarge(), sample.Mutator())
	return []api.World{
		sample.World(idle), sample.World(idle, sample.SomeRans(256)...), sample.World(numbers, sample.SomeRans(3)...),
		sample.World(sample.BusyRuntime(), sample.SomeRans(255)...), sample.World(late, sample.SomeRans(7)...), sample.World(swept, sample.SomeRans(5)...),
	}
}

// TestArguments: with one of the arguments each kind of task, and of operation, succeeds.
func TestArguments(t *testing.T) {
	tasks, kinds := map[api.TaskKind]bool{}, map[api.OpKind]bool{}
	for i, w := range arguments() {
		if why := world.Check(w); why != api.OK {
			t.Errorf("argument %d: error %d", i, why)
		}
		for kind := range api.TaskCount {
			if _, _, why := world.Do(w, api.Pick{Task: api.Task{Kind: kind}}); why == api.OK {
				tasks[kind] = true
			}
		}
		for _, kind := range sample.OpKinds() {
			if _, _, why := world.Do(w, api.Pick{Mutator: true, Op: api.Op{Kind: kind, A: 1}}); why == api.OK {
				kinds[kind] = true
			}
		}
	}
	if len(tasks) != 6 || len(kinds) != 14 {
		t.Error(tasks, kinds)
	}
}

// trial tries the calls with these arguments.
func trial() sample.Trial[api.World, answer] {
	return sample.Trial[api.World, answer]{
		Calls: calls(), Arguments: arguments(), Roomy: sample.RoomyWorld,
		SpoilsOf: sample.SpoilsOfWorld, Spoils: answer.spoils, Same: same, Like: answer.like, Twin: answer.twin,
	}
}

// 20.4

func TestNewMemory(t *testing.T) {
	some := trial()
	some.Arguments = append(some.Arguments, worlds(40)...)
	for _, fault := range some.Memory() {
		t.Error(fault)
	}
}

// TestListsApart: no two lists of an answer share memory, not even behind their ends, whether or not those of the argument do.
func TestListsApart(t *testing.T) {
	some := trial()
	// The lists of these are so many that it would take long.
	some.Arguments = slices.DeleteFunc(some.Arguments, func(w api.World) bool { return len(w.Ran) > 100 })
	for _, fault := range some.Lists(sample.WovenWorlds()...) {
		t.Error(fault)
	}
}

// TestHeardApart: what is heard of TaskRun is not the memory of what is remembered of it.
func TestHeardApart(t *testing.T) {
	for i, w := range arguments() {
		got, heard, _ := world.Do(w, api.Pick{Task: api.Task{Kind: api.TaskRun}})
		want := sample.CopyWorld(got)
		sample.SpoilWords(heard.Ran.Fields)()
		if !same(got, want) {
			t.Error(i, got.Ran)
		}
	}
}

// TestReaders: what only asks changes nothing, and answers a list of its own.
func TestReaders(t *testing.T) {
	for i, start := range arguments() {
		w, rest := sample.RoomyWorld(start)
		world.Check(w)
		l, _ := world.Live(w)
		sample.SpoilWords(l)()
		again, _ := world.Live(w)
		if !same(w, start) || !rest() || !slices.Equal(again, live(start)) {
			t.Error(i, w)
		}
	}
}

// The document's rules

// TestNilIsEmpty: a nil list and an empty one are the same to every call (P1).
func TestNilIsEmpty(t *testing.T) {
	for _, phase := range []api.Phase{api.PhaseIdle, api.PhaseMark, api.PhaseLate, api.PhaseSweep} {
		g, bare := sample.BareGcs(phase)
		one := sample.Mutator(sample.Num(0), sample.Ref(0))
		one.Scanned = phase == api.PhaseLate
		nils := api.World{Runtime: api.Runtime{Gc: g, Mutators: []api.Mutator{one}}}
		empties := api.World{Runtime: api.Runtime{Gc: bare, Mutators: []api.Mutator{one}}, Ran: []api.Ran{}}
		for name, call := range calls() {
			if a, b := call(nils), call(empties); !a.like(b) || len(a.w.Runtime.Mutators) == 0 {
				t.Error(name, a, b)
			}
		}
		for _, w := range []api.World{nils, empties} {
			if l, why := world.Live(w); len(l) != 0 || why != api.OK {
				t.Error("phase", phase, l, why)
			}
			w.Ran = []api.Ran{{}, {Fields: []uint64{}}}
			if why := world.Check(w); why != api.OK {
				t.Error("phase", phase, why)
			}
		}
	}
}

// TestArgumentsAlone: the same arguments have the same answers, whatever came before and whatever room is behind them (P3).
func TestArgumentsAlone(t *testing.T) {
	for _, fault := range trial().Again() {
		t.Error(fault)
	}
}

// TestNoGoroutine: when a call has answered, no goroutine of it is left (P4).
func TestNoGoroutine(t *testing.T) {
	before := runtime.NumGoroutine()
	for _, w := range arguments() {
		for _, call := range calls() {
			call(w)
		}
		world.Check(w)
		world.Live(w)
	}
	// Fewer are no fault: the goroutine of an earlier test may have ended meanwhile.
	if after := runtime.NumGoroutine(); after > before {
		t.Errorf("%d goroutines, and %d before", after, before)
	}
}
