package scav_test

import (
	"runtime"
	"slices"
	"testing"

	"besom/api"
	"besom/heap"
	"besom/sample"
	"besom/scav"
)

// answer is what a call answers.
type answer struct {
	s      api.Scav
	number uint64
	freed  []uint64
}

func (a answer) like(b answer) bool {
	return same(a.s, b.s) && a.number == b.number && slices.Equal(a.freed, b.freed)
}

func (a answer) twin() answer {
	return answer{sample.CopyScav(a.s), a.number, slices.Clone(a.freed)}
}

// spoils are functions each of which changes one list of an answer, and what lies behind its end.
func (a answer) spoils() []func() {
	return append(sample.SpoilsOfScav(a.s), sample.SpoilWords(a.freed))
}

// calls are all calls that answer a value, those among them that are refused too.
func calls() map[string]func(s api.Scav) answer {
	alloc := func(n int) func(s api.Scav) answer {
		return func(s api.Scav) answer {
			out, addr, _ := scav.New(s, api.Shape{N: n}, true)
			return answer{s: out, number: addr}
		}
	}
	clean := func(first int) func(s api.Scav) answer {
		return func(s api.Scav) answer {
			out, freed, _ := scav.Clean(s, first)
			return answer{s: out, freed: freed}
		}
	}
	release := func(n int) func(s api.Scav) answer {
		return func(s api.Scav) answer {
			out, gone, _ := scav.Release(s, n)
			return answer{s: out, number: uint64(gone)}
		}
	}
	keep := func(most int) func(s api.Scav) answer {
		return func(s api.Scav) answer {
			out, gone, _ := scav.Keep(s, most)
			return answer{s: out, number: uint64(gone)}
		}
	}
	return map[string]func(s api.Scav) answer{
		"Make": func(s api.Scav) answer {
			out, _ := scav.Make(s.Heap)
			return answer{s: out}
		},
		"New in a span": alloc(3), "New in a new span": alloc(15), "New, large": alloc(20), "New of no shape": alloc(49), "New, very large": alloc(48),
		"Clean of a part": clean(1), "Clean of a span": clean(2), "Clean of none": clean(0),
		"Release": release(1), "Release of all": release(100), "Release of nothing": release(0), "Release, negative": release(-1),
		"Keep": keep(4), "Keep of all": keep(100), "Keep of nothing": keep(0), "Keep, negative": keep(-1),
	}
}

// arguments are values with which the calls succeed, and others with which they are refused.
func arguments() []api.Scav {
	h := sample.Heap(10, []api.Span{sample.Span(1, 1, 4, 3, 1), sample.Span(2, 2, 0, 1, 0), sample.Span(5, 1, 16, 1, 1)},
		sample.Object{Addr: 16, N: 3, Mask: 1, Fields: []uint64{80}}, sample.Object{Addr: 20, N: 3}, sample.Object{Addr: 32, N: 20}, sample.Object{Addr: 80, N: 9})
	later, _ := heap.Turn(h)
	return []api.Scav{sample.Scav(h), sample.Scav(h, 6, 7, 8), sample.Scav(h, 4, 6, 7, 8, 9), sample.Scav(later), sample.Scav(later, 4, 9), sample.Scav(sample.ThreeObjects(), 5)}
}

// trial tries the calls with these arguments.
func trial() sample.Trial[api.Scav, answer] {
	return sample.Trial[api.Scav, answer]{
		Calls: calls(), Arguments: arguments(), Roomy: sample.RoomyScav,
		SpoilsOf: sample.SpoilsOfScav, Spoils: answer.spoils, Same: same, Like: answer.like, Twin: answer.twin,
	}
}

// TestArguments: the arguments are valid, and each call succeeds with some of them, or is refused with all of them as its name says.
func TestArguments(t *testing.T) {
	changed := map[string]int{}
	for i, s := range arguments() {
		if why := scav.Check(s); why != api.OK {
			t.Errorf("argument %d: error %d", i, why)
		}
		for name, call := range calls() {
			if got := call(s); !same(got.s, s) {
				changed[name]++
			}
		}
	}
	for _, name := range []string{"Make", "New in a span", "New in a new span", "New, large", "New, very large", "Clean of a part", "Clean of a span", "Release", "Release of all", "Keep", "Keep of nothing"} {
		if changed[name] == 0 {
			t.Error(name, "changes nothing")
		}
	}
	for _, name := range []string{"New of no shape", "Clean of none", "Release of nothing", "Release, negative", "Keep of all", "Keep, negative"} {
		if changed[name] > 0 {
			t.Error(name, "changes something")
		}
	}
}

// 23.4

func TestNewMemory(t *testing.T) {
	some := trial()
	some.Arguments = append(some.Arguments, scavs(40)...)
	for _, fault := range some.Memory() {
		t.Error(fault)
	}
}

// TestListsApart: no two lists of an answer share memory, not even behind their ends, whether or not those of the argument do.
func TestListsApart(t *testing.T) {
	for _, fault := range trial().Lists(sample.WovenScavs()...) {
		t.Error(fault)
	}
}

// TestWoven: the values whose lists share memory are valid, and are answered as if they did not.
func TestWoven(t *testing.T) {
	for i, s := range sample.WovenScavs() {
		if why := scav.Check(s); why != api.OK {
			t.Errorf("value %d: error %d", i, why)
		}
		for name, call := range calls() {
			if want := call(sample.CopyScav(s)); !call(s).like(want) {
				t.Error(name, i)
			}
		}
	}
}

// TestRunsMemory: the lengths are new memory.
func TestRunsMemory(t *testing.T) {
	for i, s := range arguments() {
		first, _ := scav.Runs(s)
		second, _ := scav.Runs(s)
		kept := slices.Clone(second)
		for k := range first[:cap(first)] {
			first[:cap(first)][k] += 1000
		}
		if third, why := scav.Runs(s); !slices.Equal(second, kept) || !slices.Equal(third, kept) || len(kept) == 0 || why != api.OK {
			t.Error(i, second, third, kept, why)
		}
	}
}

// TestReaders: what only asks changes nothing.
func TestReaders(t *testing.T) {
	for i, start := range arguments() {
		s, rest := sample.RoomyScav(start)
		scav.Check(s)
		scav.There(s)
		scav.Runs(s)
		if !same(s, start) || !rest() {
			t.Error(i, s)
		}
	}
}

// The document's rules

// TestNilIsEmpty: a nil list and an empty one are the same to every call (P1).
func TestNilIsEmpty(t *testing.T) {
	for _, spans := range [][]api.Span{nil, {}, make([]api.Span, 0, 8)} {
		s := sample.Scav(sample.Heap(3, nil), 2)
		want := sample.CopyScav(s)
		s.Heap.Spans = spans
		if why := scav.Check(s); why != api.OK {
			t.Error("Check:", why)
		}
		if n, free, why := scav.There(s); n != 2 || free != 1 || why != api.OK {
			t.Error("There:", n, free, why)
		}
		if l, why := scav.Runs(s); !slices.Equal(l, []int{2}) || why != api.OK {
			t.Error("Runs:", l, why)
		}
		for name, call := range calls() {
			if !call(s).like(call(want)) {
				t.Error(name)
			}
		}
		for _, out := range []api.Bits{{}, {W: []uint64{}}, {N: 3}, {N: 3, W: []uint64{}}} {
			bad := s
			bad.Out = out
			if why := scav.Check(bad); why != api.ErrForm {
				t.Error("no bits:", why)
			}
		}
	}
}

// TestArgumentsAlone: the same arguments have the same answers, whatever came before and whatever room is behind them (P3).
func TestArgumentsAlone(t *testing.T) {
	for _, fault := range trial().Again() {
		t.Error(fault)
	}
}

// TestNoGoroutine: when a call has answered, no goroutine of it is left (P4).
func TestNoGoroutine(t *testing.T) {
	before := runtime.NumGoroutine()
	for _, s := range arguments() {
		for _, call := range calls() {
			call(s)
		}
		scav.Check(s)
		scav.There(s)
		scav.Runs(s)
	}
	// Fewer are no fault: the goroutine of an earlier test may have ended meanwhile.
	if after := runtime.NumGoroutine(); after > before {
		t.Errorf("%d goroutines, and %d before", after, before)
	}
}
