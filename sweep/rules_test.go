package sweep_test

import (
	"runtime"
	"slices"
	"testing"

	"besom/api"
	"besom/sample"
	"besom/sweep"
)

// answer is what a call answers: a collected heap and, of some, what was freed.
type answer struct {
	g     api.Gc
	freed []uint64
}

func (a answer) like(b answer) bool {
	return same(a.g, b.g) && slices.Equal(a.freed, b.freed)
}

func (a answer) twin() answer {
	return answer{sample.CopyGc(a.g), slices.Clone(a.freed)}
}

// spoils are functions each of which changes one list of an answer, and what lies behind its end.
func (a answer) spoils() []func() {
	return append(sample.SpoilsOfGc(a.g), sample.SpoilWords(a.freed))
}

type call func(g api.Gc) answer

// calls are all calls that answer a collected heap.
func calls() map[string]call {
	alloc := func(s api.Shape) call {
		return func(g api.Gc) answer {
			out, _, _ := sweep.Alloc(g, s)
			return answer{out, nil}
		}
	}
	return map[string]call{
		"Sweep": func(g api.Gc) answer {
			out, freed, _ := sweep.Sweep(g)
			return answer{out, freed}
		},
		"All": func(g api.Gc) answer {
			out, freed, _ := sweep.All(g)
			return answer{out, freed}
		},
		"Alloc":            alloc(api.Shape{N: 1, Mask: 1}),
		"Alloc, new span":  alloc(api.Shape{N: 10}),
		"Alloc, large":     alloc(api.Shape{N: 17}),
		"Alloc, very full": alloc(api.Shape{N: 48}),
		"Alloc, no shape":  alloc(api.Shape{N: 49}),
	}
}

// arguments are collected heaps with which the calls succeed, and others with which they are refused.
func arguments() []api.Gc {
	last := busy()
	for range 2 {
		last, _ = stepped(last)
	}
	idle, _, _ := sweptAll(busy())
	none := sample.SixLists()
	none.Phase = api.PhaseSweep
	return []api.Gc{busy(), last, idle, none, sample.ThreeLarge(), sample.SixMarked(api.PhaseMark, 16), sample.SixMarked(api.PhaseLate, 20, 22, 24)}
}

// 16.4

func TestNewMemory(t *testing.T) {
	for name, call := range calls() {
		for i, start := range arguments() {
			g, rest := sample.RoomyGc(start)
			first := call(g)
			if !same(g, start) || !rest() {
				t.Error(name, "changes argument", i)
			}
			second := call(g)
			if len(second.g.Marker.Hands) == 0 {
				t.Error(name, "answers nothing of argument", i)
			}
			kept := second.twin()
			for _, spoil := range first.spoils() {
				spoil()
			}
			if !same(g, start) || !rest() {
				t.Error(name, "answers the memory of argument", i)
			}
			if !second.like(kept) {
				t.Error(name, "answers the same memory twice, of argument", i)
			}
			for _, spoil := range sample.SpoilsOfGc(g) {
				spoil()
			}
			if !second.like(kept) {
				t.Error(name, "keeps the memory of argument", i)
			}
		}
	}
}

// TestListsApart: no two lists of an answer share memory, not even behind their ends, whether or not those of the argument do.
func TestListsApart(t *testing.T) {
	for name, call := range calls() {
		for i, g := range append(arguments(), sample.WovenGcs()...) {
			for k := range call(g).spoils() {
				out := call(g)
				apart := out.twin()
				out.spoils()[k]()
				apart.spoils()[k]()
				if !out.like(apart) {
					t.Error(name, "of argument", i, "answers lists that share memory:", k)
				}
			}
		}
	}
}

// TestAnswersApart: a change of what a call answers does not change its argument, whichever it is.
func TestAnswersApart(t *testing.T) {
	for i, g := range gcs(120) {
		want := sample.CopyGc(g)
		for name, call := range calls() {
			for _, spoil := range call(g).spoils() {
				spoil()
			}
			if !same(g, want) {
				t.Fatal(name, "of heap", i, "shares memory with its argument")
			}
		}
	}
}

func TestReadersChangeNothing(t *testing.T) {
	for i, start := range arguments() {
		g, rest := sample.RoomyGc(start)
		sweep.Rest(g)
		sweep.Account(g)
		if !same(g, start) || !rest() {
			t.Error(i, g)
		}
	}
}

// The document's rules

// TestNilIsEmpty: a nil list and an empty one are the same to every call (P1).
func TestNilIsEmpty(t *testing.T) {
	for _, phase := range []api.Phase{api.PhaseIdle, api.PhaseMark, api.PhaseLate, api.PhaseSweep} {
		m := sample.Off(sample.Heap(3, nil), 1)
		m.On = phase == api.PhaseMark || phase == api.PhaseLate
		nils := sample.Gc(phase, m)
		empties := sample.CopyGc(nils)
		empties.Marker.Heap.Spans, empties.Marker.Grey.Queues[0] = []api.Span{}, []uint64{}
		empties.Table.Slots, empties.Specials, empties.Weak, empties.Queue = []api.EphSlot{}, []api.Special{}, []uint64{}, []api.Item{}
		for name, call := range calls() {
			if a, b := call(nils), call(empties); !a.like(b) {
				t.Error(name, a, b)
			}
		}
		for _, g := range []api.Gc{nils, empties} {
			a, why := sweep.Account(g)
			if n, no := sweep.Rest(g); n != 0 || a != (api.Account{Pages: 3, Free: 2}) || why != api.OK || no != api.OK {
				t.Error("phase", phase, n, a, why, no)
			}
		}
	}
}

// TestArgumentsAlone: the same arguments have the same answers, whatever came before and whatever room is behind them (P3).
func TestArgumentsAlone(t *testing.T) {
	for name, call := range calls() {
		for i, start := range arguments() {
			want := call(start)
			g, _ := sample.RoomyGc(start)
			if got := call(g); !got.like(want) {
				t.Error(name, "of a roomy argument", i)
			}
			for range 5 {
				if got := call(start); !got.like(want) {
					t.Error(name, "once more, of argument", i)
				}
			}
		}
	}
}

// TestNoGoroutine: when a call has answered, no goroutine of it is left (P4).
func TestNoGoroutine(t *testing.T) {
	before := runtime.NumGoroutine()
	for _, g := range arguments() {
		for _, call := range calls() {
			call(g)
		}
		sweep.Rest(g)
		sweep.Account(g)
	}
	// Fewer are no fault: the goroutine of an earlier test may have ended meanwhile.
	if after := runtime.NumGoroutine(); after > before {
		t.Errorf("%d goroutines, and %d before", after, before)
	}
}
