package heap_test

import (
	"math"
	"runtime"
	"slices"
	"testing"

	"besom/api"
	"besom/heap"
	"besom/sample"
)

// busy is a heap of several spans, some of whose objects are marked.
func busy() api.Heap {
	return sample.Heap(10, []api.Span{sample.Span(1, 1, 4, 3, 1), sample.Span(2, 2, 0, 1, 1), sample.Span(5, 1, 16, 1, 0)},
		sample.Object{Addr: 16, N: 3, Mask: 5, Fields: []uint64{32, 7, 0}}, sample.Object{Addr: 20, N: 3},
		sample.Object{Addr: 32, N: 20, Mask: 1, Fields: []uint64{16}}, sample.Object{Addr: 80, N: 9, Fields: []uint64{1, 2, 3}})
}

// answer is what a call answers that may share memory.
type answer struct {
	h api.Heap
	l []uint64
}

type call func(h api.Heap) answer

// calls are all calls that answer a heap or a list, those among them that are refused too.
func calls() map[string]call {
	alloc := func(n int, mask uint64) call {
		return func(h api.Heap) answer {
			h, _, _ = heap.New(h, api.Shape{N: n, Mask: mask}, true)
			return answer{h: h}
		}
	}
	store := func(addr uint64, field int, w uint64, ref bool) call {
		return func(h api.Heap) answer {
			h, _ = heap.Store(h, addr, field, w, ref)
			return answer{h: h}
		}
	}
	mark := func(addr uint64) call {
		return func(h api.Heap) answer {
			h, _, _ = heap.Mark(h, addr)
			return answer{h: h}
		}
	}
	clean := func(first int) call {
		return func(h api.Heap) answer {
			h, l, _ := heap.Clean(h, first)
			return answer{h, l}
		}
	}
	return map[string]call{
		"Make":                    func(h api.Heap) answer { h, _ = heap.Make(7); return answer{h: h} },
		"New in a span":           alloc(3, 4),
		"New in a new span":       alloc(7, 0),
		"New of a large object":   alloc(48, 1),
		"New of an invalid shape": alloc(2, 4),
		"New without space": func(h api.Heap) answer {
			h, _, _ = heap.New(sample.FullPages(), api.Shape{}, false)
			return answer{h: h}
		},
		"Store of a reference": store(16, 2, 80, true),
		"Store of a number":    store(80, 3, 80, false),
		"Store, no object":     store(17, 0, 0, false),
		"Store, no field":      store(16, 9, 0, false),
		"Store, wrong type":    store(16, 0, 0, false),
		"Store, dead":          store(16, 0, 17, true),
		"Mark":                 mark(20),
		"Mark once more":       mark(16),
		"Mark, no object":      mark(24),
		"Unmark":               func(h api.Heap) answer { h, _ = heap.Unmark(h); return answer{h: h} },
		"Turn":                 func(h api.Heap) answer { h, _ = heap.Turn(h); return answer{h: h} },
		"Turn, not possible": func(h api.Heap) answer {
			h, _ = heap.Store(h, 16, 2, 80, true)
			h, _ = heap.Turn(h)
			return answer{h: h}
		},
		"Clean, no span": clean(4),
		"Clean, swept":   clean(1),
		"Clean of one object of two": func(h api.Heap) answer {
			h, _ = heap.Turn(h)
			return clean(1)(h)
		},
		"Clean of a whole span": func(h api.Heap) answer {
			h, _ = heap.Turn(h)
			return clean(5)(h)
		},
		"Objects": func(h api.Heap) answer { l, _ := heap.Objects(h); return answer{l: l} },
	}
}

// lists are the lists of words of an answer.
func (a answer) lists() [][]uint64 {
	out := [][]uint64{a.l, a.h.Arena.Words, a.h.Pages.Used.W}
	for _, s := range a.h.Spans {
		out = append(out, s.Alloc.W, s.Mark.W)
	}
	return out
}

// spoil changes all that an answer has.
func (a answer) spoil() {
	for _, l := range a.lists() {
		for i := range l {
			l[i] ^= math.MaxUint64
		}
	}
	for i := range a.h.Spans {
		a.h.Spans[i].First += 7
	}
}

func (a answer) copy() answer {
	return answer{sample.CopyHeap(a.h), slices.Clone(a.l)}
}

func (a answer) same(b answer) bool {
	return same(a.h, b.h) && slices.Equal(a.l, b.l)
}

// roomy returns the heap in memory that goes on behind its lists, where a careless append would write to. The rest is what lies there.
func roomy(h api.Heap) (out api.Heap, rest func() bool) {
	out = sample.CopyHeap(h)
	words := append(out.Arena.Words, 99)
	used := append(out.Pages.Used.W, 99)
	spans := append(out.Spans, sample.Span(99, 1, 16, 1, 1))
	n := len(out.Spans)
	out.Arena.Words, out.Pages.Used.W, out.Spans = words[:len(words)-1], used[:len(used)-1], spans[:n]
	return out, func() bool {
		return words[len(words)-1] == 99 && used[len(used)-1] == 99 && sample.SameSpans(spans[n:], []api.Span{sample.Span(99, 1, 16, 1, 1)})
	}
}

// 7.4

func TestNewMemory(t *testing.T) {
	for name, call := range calls() {
		h, rest := roomy(busy())
		first := call(h)
		if !same(h, busy()) || !rest() {
			t.Error(name, "changes an argument")
		}
		second := call(h)
		if len(second.h.Arena.Words) == 0 && len(second.l) == 0 {
			t.Error(name, "answers nothing")
		}
		kept := second.copy()
		first.spoil()
		if !same(h, busy()) {
			t.Error(name, "answers an argument's memory")
		}
		if !second.same(kept) {
			t.Error(name, "answers the same memory twice")
		}
		answer{h: h}.spoil()
		if !second.same(kept) {
			t.Error(name, "keeps an argument's memory")
		}
	}
}

// TestListsApart: no two lists of an answer share memory, whether or not those of the arguments do.
func TestListsApart(t *testing.T) {
	for name, call := range calls() {
		h := busy()
		one := []uint64{1}
		h.Spans[1].Alloc.W, h.Spans[1].Mark.W, h.Spans[2].Alloc.W = one, one, one
		lists := call(h).lists()
		for i, l := range lists {
			for k := range l {
				l[k] = uint64(1000 * (i + 1))
			}
		}
		for i, l := range lists {
			if slices.ContainsFunc(l, func(w uint64) bool { return w != uint64(1000*(i+1)) }) {
				t.Error(name, "answers two lists that share memory")
			}
		}
	}
}

func TestReadersChangeNothing(t *testing.T) {
	h, rest := roomy(busy())
	heap.Check(h)
	heap.Objects(h)
	for _, addr := range []uint64{0, 16, 17, 32} {
		heap.At(h, addr)
		heap.Marked(h, addr)
		heap.Load(h, addr, 0)
		heap.Load(h, addr, -1)
	}
	if !same(h, busy()) || !rest() {
		t.Error(h)
	}
}

// The document's rules

// TestNilIsEmpty: a nil list and an empty one are the same to every call (P1).
func TestNilIsEmpty(t *testing.T) {
	for _, spans := range [][]api.Span{nil, {}, make([]api.Span, 0, 8)} {
		h := sample.Heap(2, nil)
		h.Spans = spans
		if why := heap.Check(h); why != api.OK {
			t.Error("Check:", why)
		}
		if l, why := heap.Objects(h); len(l) != 0 || why != api.OK {
			t.Error("Objects:", l, why)
		}
		for name, call := range map[string]func(api.Heap) (api.Heap, api.Errno){"Unmark": heap.Unmark, "Turn": heap.Turn} {
			if out, why := call(h); !same(out, h) || why != api.OK {
				t.Error(name, out, why)
			}
		}
		if out, freed, why := heap.Clean(h, 0); !same(out, h) || len(freed) != 0 || why != api.ErrNone {
			t.Error("Clean:", out, freed, why)
		}
		if out, addr, why := heap.New(h, api.Shape{}, false); len(out.Spans) != 1 || addr != 16 || why != api.OK {
			t.Error("New:", out, addr, why)
		}
		none := api.Heap{Arena: api.Arena{Words: []uint64{}}, Pages: api.Pages{Used: api.Bits{W: []uint64{}}}, Spans: spans}
		if why := heap.Check(none); why != api.ErrForm {
			t.Error("Check of a heap without pages:", why)
		}
	}
}

// TestArgumentsAlone: the same arguments have the same answers, whatever came before and whatever room is behind them (P3).
func TestArgumentsAlone(t *testing.T) {
	for name, call := range calls() {
		want := call(busy())
		h, _ := roomy(busy())
		if !call(h).same(want) {
			t.Error(name, "of a roomy heap answers something else")
		}
		if !call(busy()).same(want) {
			t.Error(name, "answers something else once more")
		}
	}
}

// TestNoGoroutine: when a call has answered, no goroutine of it is left (P4).
func TestNoGoroutine(t *testing.T) {
	before := runtime.NumGoroutine()
	for _, call := range calls() {
		call(busy())
	}
	heap.Check(busy())
	heap.At(busy(), 16)
	heap.Load(busy(), 16, 0)
	heap.Marked(busy(), 16)
	// Fewer are no fault: the goroutine of an earlier test may have ended meanwhile.
	if after := runtime.NumGoroutine(); after > before {
		t.Errorf("%d goroutines, and %d before", after, before)
	}
}
