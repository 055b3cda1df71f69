package barrier_test

import (
	"runtime"
	"slices"
	"testing"

	"besom/api"
	"besom/barrier"
	"besom/sample"
)

type call func(m api.Marker, l []uint64) api.Marker

// whites are white objects of busy.
func whites() []uint64 { return []uint64{28, 38, 28} }

// calls are all calls that answer a marker, those among them that are refused too.
func calls() map[string]call {
	shade := func(worker int, more ...uint64) call {
		return func(m api.Marker, l []uint64) api.Marker {
			out, _, _ := barrier.Shade(m, worker, slices.Concat(l, more)...)
			return out
		}
	}
	write := func(worker int, addr uint64, field int, w uint64, ref bool) call {
		return func(m api.Marker, l []uint64) api.Marker {
			out, _ := barrier.Write(m, worker, addr, field, w, ref)
			return out
		}
	}
	create := func(s api.Shape) call {
		return func(m api.Marker, l []uint64) api.Marker {
			out, _, _ := barrier.New(m, s)
			return out
		}
	}
	return map[string]call{
		"Make": func(m api.Marker, l []uint64) api.Marker {
			out, _ := barrier.Make(m.Heap, 3)
			return out
		},
		"Start": func(m api.Marker, l []uint64) api.Marker {
			out, _ := barrier.Start(m)
			return out
		},
		"Stop": func(m api.Marker, l []uint64) api.Marker {
			out, _ := barrier.Stop(m)
			return out
		},
		"Shade":            shade(0),
		"Shade, no worker": shade(3),
		"Shade, dead":      shade(1, 17),
		"Shade of nothing": func(m api.Marker, l []uint64) api.Marker { return shade(1)(m, nil) },
		"Write":            write(2, 28, 1, 28, true),
		"Write a number":   write(0, 16, 2, 1, false),
		"Write, no worker": write(-1, 28, 1, 28, true),
		"Write, refused":   write(0, 28, 9, 28, true),
		"New":              create(api.Shape{N: 1}),
		"New span":         create(api.Shape{N: 9}),
		"New, full":        create(api.Shape{N: 48}),
		"New, no shape":    create(api.Shape{N: -1}),
	}
}

// arguments are markers with which the calls are tried: one that marks, one that may be stopped, and one that is not On.
func arguments() []api.Marker {
	stop := busy()
	var all []uint64
	for _, o := range sample.Objects(stop.Heap) {
		all = append(all, o.Addr)
	}
	return []api.Marker{busy(), sample.On(sample.Marks(stop.Heap, all...), make([]api.Hand, 3)), sample.Off(stop.Heap, 3)}
}

// roomy returns the marker in memory that goes on behind its lists, where a careless append would write to. The rest is what lies there.
func roomy(m api.Marker) (out api.Marker, rest func() bool) {
	out = sample.CopyMarker(m)
	words, spans, hands := append(out.Heap.Arena.Words, 77), append(out.Heap.Spans, sample.Span(77, 1, 4, 0, 0)), append(out.Hands, api.Hand{Obj: 77})
	queues := append(out.Grey.Queues, []uint64{77})
	var roomier [][]uint64
	for i, q := range out.Grey.Queues {
		long := append(slices.Clone(q), 77)
		roomier = append(roomier, long)
		queues[i] = long[:len(q)]
	}
	out.Heap.Arena.Words, out.Heap.Spans, out.Hands = words[:len(words)-1], spans[:len(spans)-1], hands[:len(hands)-1]
	out.Grey.Queues = queues[:len(queues)-1]
	return out, func() bool {
		return words[len(words)-1] == 77 && spans[len(spans)-1].First == 77 && hands[len(hands)-1].Obj == 77 &&
			slices.Equal(queues[len(queues)-1], []uint64{77}) && !slices.ContainsFunc(roomier, func(q []uint64) bool { return q[len(q)-1] != 77 })
	}
}

// spoil changes all that a marker has, and all that lies behind its ends.
func spoil(m api.Marker) {
	spoilHeap(m.Heap)
	for i, q := range m.Grey.Queues {
		spoilWords(q)
		m.Grey.Queues[i] = append(q, 5)
	}
	for i := range m.Hands[:cap(m.Hands)] {
		m.Hands[:cap(m.Hands)][i].Obj += 1000
	}
}

func spoilHeap(h api.Heap) {
	spoilWords(h.Arena.Words)
	spoilWords(h.Pages.Used.W)
	for i := range h.Spans[:cap(h.Spans)] {
		s := &h.Spans[:cap(h.Spans)][i]
		spoilWords(s.Alloc.W)
		spoilWords(s.Mark.W)
		s.First += 1000
	}
}

func spoilWords(l []uint64) {
	for i := range l[:cap(l)] {
		l[:cap(l)][i] += 1000
	}
}

// 13.3

func TestNewMemory(t *testing.T) {
	for name, call := range calls() {
		for i, start := range arguments() {
			m, rest := roomy(start)
			l := whites()
			first := call(m, l)
			if !same(m, start) || !slices.Equal(l, whites()) || !rest() {
				t.Error(name, "changes argument", i)
			}
			second := call(m, l)
			if len(second.Hands) == 0 {
				t.Error(name, "answers nothing of argument", i)
			}
			kept := sample.CopyMarker(second)
			spoil(first)
			if !same(m, start) || !slices.Equal(l, whites()) || !rest() {
				t.Error(name, "answers the memory of argument", i)
			}
			if !same(second, kept) {
				t.Error(name, "answers the same memory twice, of argument", i)
			}
			spoil(m)
			clear(l)
			if !same(second, kept) {
				t.Error(name, "keeps the memory of argument", i)
			}
		}
	}
}

// TestListsApart: no two lists of an answer share memory, not even behind their ends, whether or not those of the argument do.
func TestListsApart(t *testing.T) {
	for name, call := range calls() {
		line := []uint64{36, 20, 64}
		shared := busy()
		shared.Grey.Queues = [][]uint64{line[:2], line[2:2], line[2:]}
		for i, m := range append(arguments(), shared) {
			out := call(m, whites())
			for part := range 3 {
				apart := sample.CopyMarker(out)
				switch part {
				case 0:
					spoilHeap(out.Heap)
					apart.Heap = out.Heap
				case 1:
					spoil(api.Marker{Grey: out.Grey})
					apart.Grey = out.Grey
				case 2:
					spoil(api.Marker{Hands: out.Hands})
					apart.Hands = out.Hands
				}
				if !same(out, apart) {
					t.Error(name, "of argument", i, "answers lists that share memory")
				}
			}
			for k, q := range out.Grey.Queues {
				apart := sample.CopyMarker(out)
				spoilWords(q)
				apart.Grey.Queues[k] = q
				if !same(out, apart) {
					t.Error(name, "of argument", i, "answers queues that share memory")
				}
			}
		}
	}
}

// TestAnswersApart: a change of what a call answers does not change its argument, whichever it is.
func TestAnswersApart(t *testing.T) {
	for i, m := range markers(40) {
		want := sample.CopyMarker(m)
		for name, call := range calls() {
			spoil(call(m, whites()))
			if !same(m, want) {
				t.Fatal(name, "of marker", i, "shares memory with its argument")
			}
		}
	}
}

func TestReadersChangeNothing(t *testing.T) {
	m, rest := roomy(busy())
	barrier.Check(m)
	if !same(m, busy()) || !rest() {
		t.Error(m)
	}
}

// The document's rules

// TestNilIsEmpty: a nil list and an empty one are the same to every call (P1).
func TestNilIsEmpty(t *testing.T) {
	nils := api.Marker{On: true, Heap: sample.Heap(1, nil), Grey: api.Grey{Queues: [][]uint64{nil}}, Hands: make([]api.Hand, 1)}
	empties := sample.CopyMarker(nils)
	empties.Heap.Spans, empties.Grey.Queues[0] = []api.Span{}, []uint64{}
	for name, call := range calls() {
		if a, b := call(nils, nil), call(empties, []uint64{}); !same(a, b) {
			t.Error(name, a, b)
		}
	}
	for _, m := range []api.Marker{{}, {Hands: []api.Hand{}, Grey: api.Grey{Queues: [][]uint64{}}}} {
		if why := barrier.Check(m); why != api.ErrForm {
			t.Error("Check of nothing:", why)
		}
	}
	if why := barrier.Check(empties); why != api.OK {
		t.Error("Check of empty lists:", why)
	}
}

// TestArgumentsAlone: the same arguments have the same answers, whatever came before and whatever room is behind them (P3).
func TestArgumentsAlone(t *testing.T) {
	for name, call := range calls() {
		for i, start := range arguments() {
			want := call(start, whites())
			m, _ := roomy(start)
			if got := call(m, whites()); !same(got, want) {
				t.Error(name, "of a roomy argument", i)
			}
			for range 5 {
				if got := call(start, whites()); !same(got, want) {
					t.Error(name, "once more, of argument", i)
				}
			}
		}
	}
}

// TestNoGoroutine: when a call has answered, no goroutine of it is left (P4).
func TestNoGoroutine(t *testing.T) {
	before := runtime.NumGoroutine()
	for _, call := range calls() {
		call(busy(), whites())
	}
	barrier.Check(busy())
	// Fewer are no fault: the goroutine of an earlier test may have ended meanwhile.
	if after := runtime.NumGoroutine(); after > before {
		t.Errorf("%d goroutines, and %d before", after, before)
	}
}
