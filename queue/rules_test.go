package queue_test

import (
	"runtime"
	"slices"
	"testing"

	"besom/api"
	"besom/queue"
	"besom/sample"
)

// answer is what a call answers: a collected heap, and what was run.
type answer struct {
	g   api.Gc
	ran []api.Ran
}

func (a answer) like(b answer) bool {
	return same(a.g, b.g) && like(a.ran, b.ran)
}

func (a answer) twin() answer {
	l := slices.Clone(a.ran)
	for i := range l {
		l[i].Fields = slices.Clone(l[i].Fields)
	}
	return answer{sample.CopyGc(a.g), l}
}

// spoils are functions each of which changes one list of an answer, and what lies behind its end.
func (a answer) spoils() []func() {
	return append(sample.SpoilsOfGc(a.g), sample.SpoilsOfRan(a.ran)...)
}

// calls are all calls that answer a collected heap.
func calls() map[string]func(g api.Gc) answer {
	return map[string]func(g api.Gc) answer{
		"Run": func(g api.Gc) answer {
			out, ran, _ := queue.Run(g)
			return answer{out, []api.Ran{ran}}
		},
		"Drain": func(g api.Gc) answer {
			out, all, _ := queue.Drain(g)
			return answer{out, all}
		},
	}
}

// arguments are collected heaps in which finalizers, cleanups and nothing waits.
func arguments() []api.Gc {
	clean, none := busy(), busy()
	clean.Queue, none.Queue = clean.Queue[1:], nil
	late := sample.SixMarked(api.PhaseLate, 20, 22, 24)
	late.Queue = []api.Item{sample.FinalItem(22, 1), sample.FinalItem(22, 1), sample.CleanItem(2)}
	return []api.Gc{busy(), clean, none, late, sample.ThreeItems(), sample.SixMarked(api.PhaseMark, 16), sample.SixLists()}
}

// trial tries the calls with these arguments.
func trial() sample.Trial[api.Gc, answer] {
	return sample.Trial[api.Gc, answer]{
		Calls: calls(), Arguments: arguments(), Roomy: sample.RoomyGc,
		SpoilsOf: sample.SpoilsOfGc, Spoils: answer.spoils, Same: same, Like: answer.like, Twin: answer.twin,
	}
}

// 17.2

func TestNewMemory(t *testing.T) {
	some := trial()
	some.Arguments = append(some.Arguments, gcs(100)...)
	for _, fault := range some.Memory() {
		t.Error(fault)
	}
}

// TestListsApart: no two lists of an answer share memory, not even behind their ends, whether or not those of the argument do.
func TestListsApart(t *testing.T) {
	for _, fault := range trial().Lists(sample.WovenGcs()...) {
		t.Error(fault)
	}
}

func TestReadersChangeNothing(t *testing.T) {
	for i, start := range arguments() {
		g, rest := sample.RoomyGc(start)
		kinds := []api.SpecialKind{api.SpecialFinal, api.SpecialClean, 7}[:2]
		queue.Next(g)
		queue.Many(g, kinds...)
		if !same(g, start) || !rest() || !slices.Equal(kinds[:3], []api.SpecialKind{api.SpecialFinal, api.SpecialClean, 7}) {
			t.Error(i, g, kinds)
		}
	}
}

// The document's rules

// TestNilIsEmpty: a nil list and an empty one are the same to every call (P1).
func TestNilIsEmpty(t *testing.T) {
	for _, phase := range []api.Phase{api.PhaseIdle, api.PhaseMark, api.PhaseLate, api.PhaseSweep} {
		nils, empties := sample.BareGcs(phase)
		for name, call := range calls() {
			if a, b := call(nils), call(empties); !a.like(b) {
				t.Error(name, a, b)
			}
		}
		for _, g := range []api.Gc{nils, empties} {
			n, why := queue.Many(g, api.SpecialFinal, api.SpecialClean)
			if item, no := queue.Next(g); n != 0 || item != (api.Item{}) || why != api.OK || no != api.ErrNone {
				t.Error("phase", phase, n, item, why, no)
			}
		}
	}
	for _, kinds := range [][]api.SpecialKind{nil, {}} {
		if n, why := queue.Many(busy(), kinds...); n != 0 || why != api.OK {
			t.Error(n, why)
		}
	}
}

// TestArgumentsAlone: the same arguments have the same answers, whatever came before and whatever room is behind them (P3).
func TestArgumentsAlone(t *testing.T) {
	for _, fault := range trial().Again() {
		t.Error(fault)
	}
}

// TestNoGoroutine: when a call has answered, no goroutine of it is left (P4).
func TestNoGoroutine(t *testing.T) {
	before := runtime.NumGoroutine()
	for _, g := range arguments() {
		for _, call := range calls() {
			call(g)
		}
		queue.Next(g)
		queue.Many(g, api.SpecialFinal)
	}
	// Fewer are no fault: the goroutine of an earlier test may have ended meanwhile.
	if after := runtime.NumGoroutine(); after > before {
		t.Errorf("%d goroutines, and %d before", after, before)
	}
}
