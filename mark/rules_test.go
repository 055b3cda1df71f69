package mark_test

import (
	"runtime"
	"slices"
	"testing"

	"besom/api"
	"besom/mark"
	"besom/sample"
)

type call func(m api.Marker, l []int) api.Marker

func some() []int { return []int{2, 0, 2} }

// calls are all calls that answer a marker, those among them that are refused too.
func calls() map[string]call {
	scan := func(worker int) call {
		return func(m api.Marker, l []int) api.Marker {
			out, _ := mark.Scan(m, worker)
			return out
		}
	}
	run := func(more ...int) call {
		return func(m api.Marker, l []int) api.Marker {
			out, _, _ := mark.Run(m, slices.Concat(l, more)...)
			return out
		}
	}
	return map[string]call{
		"Scan, taken":     scan(0),
		"Scan":            scan(1),
		"Scan, no worker": scan(3),
		"Run":             run(),
		"Run, no worker":  run(3),
		"Run for all": func(m api.Marker, l []int) api.Marker {
			return run()(m, nil)
		},
	}
}

// arguments are markers with which the calls are tried: one that marks, one in which nothing is left, and one that is not On.
func arguments() []api.Marker {
	return []api.Marker{busy(), sample.On(sample.Marks(busy().Heap), make([]api.Hand, 3)), sample.Off(busy().Heap, 3)}
}

// roomy returns the marker in memory that goes on behind its lists, where a careless append would write to. The rest is what lies there.
func roomy(m api.Marker) (out api.Marker, rest func() bool) {
	out = sample.CopyMarker(m)
	words, spans, hands := append(out.Heap.Arena.Words, 77), append(out.Heap.Spans, sample.Span(77, 1, 4, 0, 0)), append(out.Hands, api.Hand{Obj: 77})
	queues := append(out.Grey.Queues, []uint64{77})
	var roomier [][]uint64
	for i, q := range out.Grey.Queues {
		long := append(slices.Clone(q), 77)
		roomier = append(roomier, long)
		queues[i] = long[:len(q)]
	}
	out.Heap.Arena.Words, out.Heap.Spans, out.Hands = words[:len(words)-1], spans[:len(spans)-1], hands[:len(hands)-1]
	out.Grey.Queues = queues[:len(queues)-1]
	return out, func() bool {
		return words[len(words)-1] == 77 && spans[len(spans)-1].First == 77 && hands[len(hands)-1].Obj == 77 &&
			slices.Equal(queues[len(queues)-1], []uint64{77}) && !slices.ContainsFunc(roomier, func(q []uint64) bool { return q[len(q)-1] != 77 })
	}
}

// spoil changes all that a marker has, and all that lies behind its ends.
func spoil(m api.Marker) {
	spoilHeap(m.Heap)
	for i, q := range m.Grey.Queues {
		spoilWords(q)
		m.Grey.Queues[i] = append(q, 5)
	}
	for i := range m.Hands[:cap(m.Hands)] {
		m.Hands[:cap(m.Hands)][i].Obj += 1000
	}
}

func spoilHeap(h api.Heap) {
	spoilWords(h.Arena.Words)
	spoilWords(h.Pages.Used.W)
	for i := range h.Spans[:cap(h.Spans)] {
		s := &h.Spans[:cap(h.Spans)][i]
		spoilWords(s.Alloc.W)
		spoilWords(s.Mark.W)
		s.First += 1000
	}
}

func spoilWords(l []uint64) {
	for i := range l[:cap(l)] {
		l[:cap(l)][i] += 1000
	}
}

// 14.3

func TestNewMemory(t *testing.T) {
	for name, call := range calls() {
		for i, start := range arguments() {
			m, rest := roomy(start)
			l := some()
			first := call(m, l)
			if !same(m, start) || !slices.Equal(l, some()) || !rest() {
				t.Error(name, "changes argument", i)
			}
			second := call(m, l)
			if len(second.Hands) == 0 {
				t.Error(name, "answers nothing of argument", i)
			}
			kept := sample.CopyMarker(second)
			spoil(first)
			if !same(m, start) || !slices.Equal(l, some()) || !rest() {
				t.Error(name, "answers the memory of argument", i)
			}
			if !same(second, kept) {
				t.Error(name, "answers the same memory twice, of argument", i)
			}
			spoil(m)
			clear(l)
			if !same(second, kept) {
				t.Error(name, "keeps the memory of argument", i)
			}
		}
	}
}

// TestListsApart: no two lists of an answer share memory, not even behind their ends, whether or not those of the argument do.
func TestListsApart(t *testing.T) {
	for name, call := range calls() {
		line := []uint64{36, 20, 64}
		shared := busy()
		shared.Grey.Queues = [][]uint64{line[:2], line[2:2], line[2:]}
		for i, m := range append(arguments(), shared) {
			out := call(m, some())
			for k, q := range out.Grey.Queues {
				apart := sample.CopyMarker(out)
				spoilWords(q)
				apart.Grey.Queues[k] = q
				if !same(out, apart) {
					t.Error(name, "of argument", i, "answers queues that share memory")
				}
			}
			apart := sample.CopyMarker(out)
			spoilHeap(out.Heap)
			apart.Heap = out.Heap
			if !same(out, apart) {
				t.Error(name, "of argument", i, "answers lists that share memory")
			}
		}
	}
}

// TestAnswersApart: a change of what a call answers does not change its argument, whichever it is.
func TestAnswersApart(t *testing.T) {
	for i, m := range markers(60) {
		want := sample.CopyMarker(m)
		for name, call := range calls() {
			spoil(call(m, some()))
			if !same(m, want) {
				t.Fatal(name, "of marker", i, "shares memory with its argument")
			}
		}
	}
}

// TestReaders: what only reads changes nothing, and the list that it answers is new.
func TestReaders(t *testing.T) {
	m, rest := roomy(busy())
	mark.Done(m)
	first, _ := mark.Marks(m)
	second, _ := mark.Marks(m)
	kept := slices.Clone(second)
	spoilWords(first)
	if !same(m, busy()) || !rest() || !slices.Equal(second, kept) || len(kept) == 0 {
		t.Error(m, second, kept)
	}
	spoil(m)
	if !slices.Equal(second, kept) {
		t.Error(second, kept)
	}
}

// The document's rules

// TestNilIsEmpty: a nil list and an empty one are the same to every call (P1).
func TestNilIsEmpty(t *testing.T) {
	nils := api.Marker{On: true, Heap: sample.Heap(1, nil), Grey: api.Grey{Queues: [][]uint64{nil, nil, nil}}, Hands: make([]api.Hand, 3)}
	empties := sample.CopyMarker(nils)
	empties.Heap.Spans, empties.Grey.Queues[0] = []api.Span{}, []uint64{}
	for name, call := range calls() {
		if a, b := call(nils, nil), call(empties, []int{}); !same(a, b) {
			t.Error(name, a, b)
		}
	}
	for _, m := range []api.Marker{nils, empties} {
		if l, why := mark.Marks(m); len(l) != 0 || why != api.OK {
			t.Error("Marks of nothing:", l, why)
		}
		if done, why := mark.Done(m); !done || why != api.OK {
			t.Error("Done of nothing:", done, why)
		}
		if _, n, why := mark.Run(m, []int{}...); n != 0 || why != api.OK {
			t.Error("Run of nothing:", n, why)
		}
	}
	all, n, _ := mark.Run(busy())
	if got, k, why := mark.Run(busy(), []int{}...); !same(got, all) || k != n || why != api.OK {
		t.Error("Run for an empty list:", k, why)
	}
}

// TestArgumentsAlone: the same arguments have the same answers, whatever came before and whatever room is behind them (P3).
func TestArgumentsAlone(t *testing.T) {
	for name, call := range calls() {
		for i, start := range arguments() {
			want := call(start, some())
			m, _ := roomy(start)
			if got := call(m, some()); !same(got, want) {
				t.Error(name, "of a roomy argument", i)
			}
			for range 5 {
				if got := call(start, some()); !same(got, want) {
					t.Error(name, "once more, of argument", i)
				}
			}
		}
	}
}

// TestNoGoroutine: when a call has answered, no goroutine of it is left (P4).
func TestNoGoroutine(t *testing.T) {
	before := runtime.NumGoroutine()
	for _, call := range calls() {
		call(busy(), some())
	}
	mark.Done(busy())
	mark.Marks(busy())
	// Fewer are no fault: the goroutine of an earlier test may have ended meanwhile.
	if after := runtime.NumGoroutine(); after > before {
		t.Errorf("%d goroutines, and %d before", after, before)
	}
}
