package verify_test

import (
	"runtime"
	"slices"
	"testing"

	"besom/api"
	"besom/sample"
	"besom/verify"
)

// answer is what a call answers.
type answer struct {
	h      api.Heap
	number int
	faults []api.Fault
}

func (a answer) like(b answer) bool {
	return same(a.h, b.h) && a.number == b.number && slices.Equal(a.faults, b.faults)
}

func (a answer) twin() answer {
	return answer{sample.CopyHeap(a.h), a.number, slices.Clone(a.faults)}
}

// spoils are functions each of which changes one list of an answer, and what lies behind its end.
func (a answer) spoils() []func() {
	return append(sample.SpoilsOfHeap(a.h), sample.SpoilFaults(a.faults))
}

func mend(h api.Heap) answer {
	g, n, _ := verify.Mend(h)
	return answer{h: g, number: n}
}

func faults(h api.Heap) answer {
	return answer{faults: verify.Faults(h)}
}

// trial tries calls with heaps of which each has faults that are repaired.
func trial() sample.Trial[api.Heap, answer] {
	l := slices.DeleteFunc(append(damaged(298, 60), sample.Corrupted()), func(h api.Heap) bool { return len(faultsOf(h)) == 0 })
	return sample.Trial[api.Heap, answer]{
		Calls: map[string]func(h api.Heap) answer{"Mend": mend, "Faults": faults}, Arguments: l, Roomy: sample.RoomyHeap,
		SpoilsOf: sample.SpoilsOfHeap, Spoils: answer.spoils, Same: same, Like: answer.like, Twin: answer.twin,
	}
}

// 29.3

func TestNewMemory(t *testing.T) {
	some := trial()
	if len(some.Arguments) < 30 {
		t.Fatal(len(some.Arguments))
	}
	for _, fault := range some.Memory() {
		t.Error(fault)
	}
	// A heap without faults is copied, too.
	some.Calls = map[string]func(h api.Heap) answer{"Mend": mend}
	some.Arguments = sample.Heaps()[:10]
	for _, fault := range some.Memory() {
		t.Error(fault)
	}
	// Of one that is not repaired only the faults are told.
	some.Calls = map[string]func(h api.Heap) answer{"Faults": faults}
	some.Arguments = sample.BadHeaps()[:40]
	for _, fault := range some.Memory() {
		t.Error(fault)
	}
}

// TestListsApart: no two lists of an answer share memory, not even behind their ends, whether or not those of the argument do.
func TestListsApart(t *testing.T) {
	for _, fault := range trial().Lists(append(sample.WovenHeaps(), sample.Heaps()[:10]...)...) {
		t.Error(fault)
	}
}

// TestWoven: heaps whose lists share memory are answered as if they did not.
func TestWoven(t *testing.T) {
	for i, h := range sample.WovenHeaps() {
		apart := sample.CopyHeap(h)
		if !mend(h).like(mend(apart)) || !faults(h).like(faults(apart)) || !same(h, apart) {
			t.Error(i)
		}
		conform(t, "woven", h)
	}
}

// TestReaders: what only asks changes nothing, neither the heap nor the kinds, and keeps nothing.
func TestReaders(t *testing.T) {
	for i, start := range append(sample.Heaps(), sample.Corrupted(), sample.BadHeaps()[3]) {
		h, rest := sample.RoomyHeap(start)
		kinds := []api.FaultKind{api.FaultDirt, api.FaultPage, api.FaultDirt, 77}
		n := verify.Count(h, kinds[:3]...)
		verify.Worst(h)
		if !same(h, start) || !rest() || !slices.Equal(kinds, []api.FaultKind{api.FaultDirt, api.FaultPage, api.FaultDirt, 77}) {
			t.Error(i, "changes")
		}
		clear(h.Arena.Words)
		clear(kinds)
		if again := verify.Count(start, api.FaultPage, api.FaultDirt); again != n {
			t.Error(i, n, again)
		}
	}
}

// The document's rules

// TestNilIsEmpty: a nil list and an empty one are the same to every call (P1).
func TestNilIsEmpty(t *testing.T) {
	for _, l := range [][]api.Span{nil, {}, make([]api.Span, 0, 8)} {
		h := sample.Heap(2, nil)
		h.Spans = l
		expect(t, "without spans", h, nil)
		h.Arena.Words[20] = 1
		expect(t, "without spans, and with dirt", h, list(dirt, 20))
		for _, words := range [][]uint64{nil, {}, make([]uint64, 0, 16)} {
			none := api.Heap{Arena: api.Arena{Words: words}, Pages: api.Pages{Used: api.Bits{W: words}}, Spans: l}
			expect(t, "nothing", none, list(frame, 0))
			h := sample.Heap(2, []api.Span{sample.Span(1, 1, 2, 0, 0)})
			h.Spans[0].Alloc.W = words
			expect(t, "without bits", h, list(inSpan, 0))
		}
	}
	for _, kinds := range [][]api.FaultKind{nil, {}} {
		if n := verify.Count(sample.Corrupted(), kinds...); n != 0 {
			t.Error("Count of no kinds:", n)
		}
	}
}

// TestArgumentsAlone: the same arguments have the same answers, whatever came before and whatever room is behind them (P3).
func TestArgumentsAlone(t *testing.T) {
	for _, fault := range trial().Again() {
		t.Error(fault)
	}
}

// TestNoGoroutine: when a call has answered, no goroutine of it is left (P4).
func TestNoGoroutine(t *testing.T) {
	before := runtime.NumGoroutine()
	for _, h := range append(sample.Heaps(), sample.Corrupted()) {
		verify.Faults(h)
		verify.Count(h, api.FaultDirt)
		verify.Worst(h)
		verify.Mend(h)
	}
	// Fewer are no fault: the goroutine of an earlier test may have ended meanwhile.
	if after := runtime.NumGoroutine(); after > before {
		t.Errorf("%d goroutines, and %d before", after, before)
	}
}
