package reach_test

import (
	"runtime"
	"testing"

	"besom/api"
	"besom/reach"
	"besom/sample"
)

// calls are all calls that answer a collected heap.
func calls() map[string]func(g api.Gc) api.Gc {
	return map[string]func(g api.Gc) api.Gc{
		"Make": func(g api.Gc) api.Gc {
			out, _ := reach.Make(4, 2)
			return out
		},
		"Start": func(g api.Gc) api.Gc {
			out, _ := reach.Start(g)
			return out
		},
		"Finish": func(g api.Gc) api.Gc {
			out, _, _ := reach.Finish(g)
			return out
		},
	}
}

// arguments are collected heaps with which each call succeeds, and others with which it is refused.
func arguments() []api.Gc {
	idle, values, late, full := sample.SixLists(), busy(), sample.SixMarked(api.PhaseMark, 16, 18, 20), busy()
	idle.Queue = []api.Item{sample.FinalItem(22, 1), sample.CleanItem(2)}
	values.Marker.Heap = sample.Marks(values.Marker.Heap, 16, 18, 20, 22, 24)
	late.Queue = idle.Queue[1:]
	for len(full.Queue) < 256 {
		full.Queue = append(full.Queue, sample.CleanItem(9))
	}
	grey := busy()
	grey.Marker = sample.On(grey.Marker.Heap, []api.Hand{{Obj: 22, Field: 1}, {}}, []uint64{18}, []uint64{16, 24})
	return []api.Gc{idle, values, late, busy(), full, grey, sample.ThreeLarge()}
}

// TestArguments: among the arguments is one for each thing that a call may do.
func TestArguments(t *testing.T) {
	started, actions := 0, map[string]int{}
	for i, g := range arguments() {
		if !valid(g) {
			t.Errorf("argument %d is not valid", i)
		}
		if _, why := reach.Start(g); why == api.OK {
			started++
		}
		got, _, why := reach.Finish(g)
		actions[action(g, got, why)]++
	}
	if started == 0 || len(actions) != 5 {
		t.Error(started, actions)
	}
}

// 15.3

func TestNewMemory(t *testing.T) {
	for name, call := range calls() {
		for i, start := range arguments() {
			g, rest := sample.RoomyGc(start)
			first := call(g)
			if !same(g, start) || !rest() {
				t.Error(name, "changes argument", i)
			}
			second := call(g)
			if len(second.Marker.Hands) == 0 {
				t.Error(name, "answers nothing of argument", i)
			}
			kept := sample.CopyGc(second)
			for _, spoil := range sample.SpoilsOfGc(first) {
				spoil()
			}
			if !same(g, start) || !rest() {
				t.Error(name, "answers the memory of argument", i)
			}
			if !same(second, kept) {
				t.Error(name, "answers the same memory twice, of argument", i)
			}
			for _, spoil := range sample.SpoilsOfGc(g) {
				spoil()
			}
			if !same(second, kept) {
				t.Error(name, "keeps the memory of argument", i)
			}
		}
	}
}

// TestListsApart: no two lists of an answer share memory, not even behind their ends, whether or not those of the argument do.
func TestListsApart(t *testing.T) {
	for name, call := range calls() {
		for i, g := range append(arguments(), sample.WovenGcs()...) {
			for k := range sample.SpoilsOfGc(call(g)) {
				out := call(g)
				apart := sample.CopyGc(out)
				sample.SpoilsOfGc(out)[k]()
				sample.SpoilsOfGc(apart)[k]()
				if !same(out, apart) {
					t.Error(name, "of argument", i, "answers lists that share memory:", k)
				}
			}
		}
	}
}

// TestAnswersApart: a change of what a call answers does not change its argument, whichever it is.
func TestAnswersApart(t *testing.T) {
	for i, g := range gcs(150) {
		want := sample.CopyGc(g)
		for name, call := range calls() {
			for _, spoil := range sample.SpoilsOfGc(call(g)) {
				spoil()
			}
			if !same(g, want) {
				t.Fatal(name, "of heap", i, "shares memory with its argument")
			}
		}
	}
}

func TestReadersChangeNothing(t *testing.T) {
	for i, start := range arguments() {
		g, rest := sample.RoomyGc(start)
		reach.Check(g)
		reach.Room(g)
		if !same(g, start) || !rest() {
			t.Error(i, g)
		}
	}
}

// The document's rules

// TestNilIsEmpty: a nil list and an empty one are the same to every call (P1).
func TestNilIsEmpty(t *testing.T) {
	for _, phase := range []api.Phase{api.PhaseIdle, api.PhaseMark, api.PhaseLate, api.PhaseSweep} {
		m := sample.Off(sample.Heap(1, nil), 1)
		m.On = phase == api.PhaseMark || phase == api.PhaseLate
		nils := sample.Gc(phase, m)
		empties := sample.CopyGc(nils)
		empties.Marker.Heap.Spans, empties.Marker.Grey.Queues[0] = []api.Span{}, []uint64{}
		empties.Table.Slots, empties.Specials, empties.Weak, empties.Queue = []api.EphSlot{}, []api.Special{}, []uint64{}, []api.Item{}
		for name, call := range calls() {
			if a, b := call(nils), call(empties); !same(a, b) {
				t.Error(name, a, b)
			}
		}
		for _, g := range []api.Gc{nils, empties} {
			if n, why := reach.Room(g); n != 256 || why != api.OK || reach.Check(g) != api.OK {
				t.Error("phase", phase, n, why)
			}
		}
	}
}

// TestArgumentsAlone: the same arguments have the same answers, whatever came before and whatever room is behind them (P3).
func TestArgumentsAlone(t *testing.T) {
	for name, call := range calls() {
		for i, start := range arguments() {
			want := call(start)
			g, _ := sample.RoomyGc(start)
			if got := call(g); !same(got, want) {
				t.Error(name, "of a roomy argument", i)
			}
			for range 5 {
				if got := call(start); !same(got, want) {
					t.Error(name, "once more, of argument", i)
				}
			}
		}
	}
}

// TestNoGoroutine: when a call has answered, no goroutine of it is left (P4).
func TestNoGoroutine(t *testing.T) {
	before := runtime.NumGoroutine()
	for _, call := range calls() {
		for _, g := range arguments() {
			call(g)
			reach.Check(g)
			reach.Room(g)
		}
	}
	// Fewer are no fault: the goroutine of an earlier test may have ended meanwhile.
	if after := runtime.NumGoroutine(); after > before {
		t.Errorf("%d goroutines, and %d before", after, before)
	}
}
