package mark_test

import (
	"math"
	"slices"
	"testing"

	"besom/api"
	"besom/barrier"
	"besom/heap"
	"besom/mark"
	"besom/sample"
)

// TestInvalidComesFirst: what is not valid comes before all other errors, and there is no result.
func TestInvalidComesFirst(t *testing.T) {
	for i, m := range sample.BadMarkers() {
		for _, worker := range []int{-1, 0, 1, math.MaxInt} {
			if got, why := mark.Scan(m, worker); !same(got, api.Marker{}) || why != api.ErrForm {
				t.Errorf("Scan of invalid marker %d: error %d", i, why)
			}
			if got, n, why := mark.Run(m, worker); !same(got, api.Marker{}) || n != 0 || why != api.ErrForm {
				t.Errorf("Run of invalid marker %d: %d, error %d", i, n, why)
			}
		}
		if got, n, why := mark.Run(m); !same(got, api.Marker{}) || n != 0 || why != api.ErrForm {
			t.Errorf("Run of invalid marker %d: %d, error %d", i, n, why)
		}
		if done, why := mark.Done(m); done || why != api.ErrForm {
			t.Errorf("Done of invalid marker %d: %v, error %d", i, done, why)
		}
		if l, why := mark.Marks(m); len(l) != 0 || why != api.ErrForm {
			t.Errorf("Marks of invalid marker %d: %d, error %d", i, l, why)
		}
	}
}

// 14.1

func TestScan(t *testing.T) {
	counts := map[api.Errno]int{}
	for i, m := range append(markers(300), sample.Markers()...) {
		for _, worker := range sample.WorkerNumbers() {
			want, no := scanned(m, worker)
			got, why := mark.Scan(m, worker)
			if !same(got, want) || why != no {
				t.Errorf("Scan of marker %d for %d: %v, %v, error %d; want %v, %v, %d", i, worker, got.Grey, got.Hands, why, want.Grey, want.Hands, no)
			}
			counts[no]++
		}
	}
	for _, why := range []api.Errno{api.OK, api.ErrTask, api.ErrState, api.ErrNone} {
		if counts[why] < 100 {
			t.Error("error", why, counts[why])
		}
	}
}

// TestScanOn: step after step, of workers as they come, till there is none left.
func TestScanOn(t *testing.T) {
	p := sample.Picks(33)
	for i, m := range markers(60) {
		for left(m) {
			worker := p.Below(len(m.Hands))
			want, no := scanned(m, worker)
			got, why := mark.Scan(m, worker)
			if !same(got, want) || why != no || barrier.Check(got) != api.OK {
				t.Fatalf("Scan of marker %d for %d: %v, %v, error %d; want %v, %v, %d", i, worker, got.Grey, got.Hands, why, want.Grey, want.Hands, no)
			}
			m = got
		}
	}
}

// TestScanSteps: each of the kinds of steps, on its own.
func TestScanSteps(t *testing.T) {
	linked := sample.ThreeLinked()
	on := func(marked []uint64, hands []api.Hand, queues ...[]uint64) api.Marker {
		return sample.On(sample.Marks(linked, marked...), hands, queues...)
	}
	hands := func(l ...api.Hand) []api.Hand { return l }
	all := []uint64{16, 32, 34}
	for i, x := range []struct{ from, to api.Marker }{
		// An object is taken: the last one of the worker's own queue, or the first one of another.
		{on(all, hands(api.Hand{}), all), on(all, hands(api.Hand{Obj: 34}), all[:2])},
		{on(all, hands(api.Hand{}, api.Hand{}), nil, all), on(all, hands(api.Hand{Obj: 16}, api.Hand{}), nil, all[1:])},
		{on(all, hands(api.Hand{}, api.Hand{}, api.Hand{}), nil, all[:1], all[1:]), on(all, hands(api.Hand{Obj: 32}, api.Hand{}, api.Hand{}), nil, all[:1], all[2:])},
		// A field that holds a reference is examined, and those before it are passed by.
		{on(all[:1], hands(api.Hand{Obj: 16})), on(all[:2], hands(api.Hand{Obj: 16, Field: 1}), all[1:2])},
		{on(all[:2], hands(api.Hand{Obj: 16, Field: 1})), on(all, hands(api.Hand{Obj: 16, Field: 3}), all[2:])},
		{on(all[:2], hands(api.Hand{Obj: 16, Field: 2})), on(all, hands(api.Hand{Obj: 16, Field: 3}), all[2:])},
		{on(all[:1], hands(api.Hand{Obj: 16}, api.Hand{})), on(all[:2], hands(api.Hand{Obj: 16, Field: 1}, api.Hand{}), all[1:2])},
		{on(all, hands(api.Hand{Obj: 16}, api.Hand{Obj: 32}), nil, all[2:]), on(all, hands(api.Hand{Obj: 16, Field: 1}, api.Hand{Obj: 32}), nil, all[2:])},
		{on(all, hands(api.Hand{Obj: 34})), on(all, hands(api.Hand{Obj: 34, Field: 1}))},
		// There is no such field any more.
		{on(all, hands(api.Hand{Obj: 16, Field: 3}, api.Hand{Obj: 32})), on(all, hands(api.Hand{}, api.Hand{Obj: 32}))},
		{on(all[1:2], hands(api.Hand{Obj: 32}, api.Hand{})), on(all[1:2], make([]api.Hand, 2))},
		{on(all[1:2], hands(api.Hand{Obj: 32, Field: 1}, api.Hand{})), on(all[1:2], make([]api.Hand, 2))},
		{on(all, hands(api.Hand{Obj: 34, Field: 1}), all[:1]), on(all, make([]api.Hand, 1), all[:1])},
	} {
		if got, why := mark.Scan(x.from, 0); !same(got, x.to) || why != api.OK {
			t.Errorf("step %d: %v, %v, error %d", i, got.Grey, got.Hands, why)
		}
	}
}

// TestScanErrors: the errors in the order in which they come.
func TestScanErrors(t *testing.T) {
	off := sample.Off(sample.ThreeLinked(), 2)
	for _, m := range []api.Marker{off, chapter(), sample.On(sample.ThreeLinked(), make([]api.Hand, 2))} {
		for _, worker := range append(sample.Ints(), -1, 2) {
			if got, why := mark.Scan(m, worker); !same(got, m) || why != api.ErrTask {
				t.Errorf("Scan for %d: error %d", worker, why)
			}
		}
	}
	for worker := range 2 {
		if got, why := mark.Scan(off, worker); !same(got, off) || why != api.ErrState {
			t.Errorf("Scan, not On, for %d: error %d", worker, why)
		}
	}
	m := sample.On(sample.Marks(sample.ThreeLinked(), 16), []api.Hand{{}, {Obj: 16}})
	if got, why := mark.Scan(m, 0); !same(got, m) || why != api.ErrNone {
		t.Errorf("Scan of nothing: error %d", why)
	}
}

// TestScanNothing: a field of 0 shades nothing, and takes a step of its own.
func TestScanNothing(t *testing.T) {
	h := sample.Heap(2, []api.Span{sample.Span(1, 1, 4, 1, 1)}, sample.Object{Addr: 16, N: 3, Mask: 7})
	m := sample.On(h, make([]api.Hand, 1), []uint64{16})
	for i, hand := range []api.Hand{{Obj: 16}, {Obj: 16, Field: 1}, {Obj: 16, Field: 2}, {Obj: 16, Field: 3}, {}} {
		var why api.Errno
		m, why = mark.Scan(m, 0)
		if !same(m, sample.On(h, []api.Hand{hand})) || why != api.OK {
			t.Errorf("step %d: %v, %v, error %d", i, m.Grey, m.Hands, why)
		}
	}
	if got, why := mark.Scan(m, 0); !same(got, m) || why != api.ErrNone {
		t.Errorf("error %d", why)
	}
}

// 14.2

func TestDone(t *testing.T) {
	var done int
	for i, m := range append(markers(300), sample.Markers()...) {
		got, why := mark.Done(m)
		if got != !left(m) || why != api.OK {
			t.Errorf("Done of marker %d: %v, error %d", i, got, why)
		}
		if got {
			done++
		}
	}
	if done < 50 {
		t.Error(done)
	}
}

func TestMarks(t *testing.T) {
	var many int
	for i, m := range append(markers(300), sample.Markers()...) {
		want := sample.Marked(m.Heap)
		if got, why := mark.Marks(m); !slices.Equal(got, want) || why != api.OK {
			t.Errorf("Marks of marker %d: %d, error %d; want %d", i, got, why, want)
		}
		many += len(want)
	}
	if many < 1000 {
		t.Error(many)
	}
}

func TestRun(t *testing.T) {
	p := sample.Picks(35)
	counts := map[api.Errno]int{}
	for i, m := range markers(100) {
		for _, l := range sample.Crews(&p, len(m.Hands)) {
			want, many, no := ran(m, l)
			got, n, why := mark.Run(m, l...)
			if !same(got, want) || n != many || why != no {
				t.Errorf("Run of marker %d for %d: %d, error %d; want %d, %d", i, l, n, why, many, no)
			}
			counts[no]++
		}
	}
	for _, why := range []api.Errno{api.OK, api.ErrTask, api.ErrState} {
		if counts[why] < 100 {
			t.Error("error", why, counts[why])
		}
	}
}

// TestRunErrors: the errors in the order in which they come, whether or not there is something to do.
func TestRunErrors(t *testing.T) {
	off := sample.Off(sample.ThreeLinked(), 2)
	for _, l := range [][]int{nil, {0}, {1, 0}, {2}, {-1}, {0, math.MaxInt}} {
		if got, n, why := mark.Run(off, l...); !same(got, off) || n != 0 || why != api.ErrState {
			t.Errorf("Run, not On, for %d: %d, error %d", l, n, why)
		}
	}
	for _, m := range []api.Marker{chapter(), sample.On(sample.ThreeLinked(), make([]api.Hand, 2))} {
		for _, worker := range append(sample.Ints(), -1, 2) {
			for _, l := range [][]int{{worker}, {0, worker}, {worker, 1}, append(make([]int, 5000), worker)} {
				if got, n, why := mark.Run(m, l...); !same(got, m) || n != 0 || why != api.ErrTask {
					t.Errorf("Run for %d: %d, error %d", worker, n, why)
				}
			}
		}
	}
	none := sample.On(sample.ThreeLinked(), make([]api.Hand, 2))
	if got, n, why := mark.Run(none, 1); !same(got, none) || n != 0 || why != api.OK {
		t.Error("Run of nothing:", n, why)
	}
}

// TestRunTogether: it depends on the workers, and on their order, who examines what, and so what the queues are meanwhile; not what is marked in the end, and in how many steps.
func TestRunTogether(t *testing.T) {
	m := busy()
	want, many, _ := ran(m, nil)
	for _, l := range [][]int{nil, {0}, {1}, {2}, {0, 1}, {2, 1, 0}, {1, 1, 1, 2}, {0, 2, 2, 0}, make([]int, 20000), slices.Repeat([]int{2}, 20000)} {
		if got, n, why := mark.Run(m, l...); !same(got, want) || n != many || why != api.OK {
			t.Errorf("Run for %d: %d, error %d; want %d", l[:min(len(l), 9)], n, why, many)
		}
	}
}

// TestRunForOthers: if only hands of other workers have objects, the first of them executes one step, and the given ones go on with what it finds.
func TestRunForOthers(t *testing.T) {
	linked := sample.ThreeLinked()
	one := sample.On(sample.Marks(linked, 16, 34), []api.Hand{{}, {Obj: 34, Field: 1}, {Obj: 16, Field: 0}, {}})
	if got, n, why := mark.Run(one, 0, 3); !same(got, sample.On(sample.Marks(linked, 16, 32, 34), make([]api.Hand, 4))) || n != 1+3+2 || why != api.OK {
		t.Error(got.Hands, n, why)
	}
}

// 14.3: rules_test.go

// TestRunLarge: the greatest heaps, one of which is a ring of two thousand objects, are marked to their ends.
func TestRunLarge(t *testing.T) {
	t.Parallel()
	for i, h := range []api.Heap{sample.FullPages(), sample.FullSpans()} {
		objects := sample.Objects(h)
		var all []uint64
		steps := 0
		for _, o := range objects {
			all = append(all, o.Addr)
			steps += len(o.Refs()) + 2
		}
		m := sample.On(sample.Marks(h, all[7]), make([]api.Hand, 4), nil, all[7:8])
		if got, n, why := mark.Run(m, 3, 1); !same(got, sample.On(sample.Marks(h, all...), make([]api.Hand, 4))) || n != steps || why != api.OK {
			t.Errorf("heap %d: %d, error %d; want %d", i, n, why, steps)
		}
	}
}

// TestChapter: the chapter's own examples, one after the other.
func TestChapter(t *testing.T) {
	h, _ := heap.Make(4)
	h, a, _ := heap.New(h, api.Shape{N: 3, Mask: 5}, false)
	h, b, _ := heap.New(h, api.Shape{N: 1}, false)
	h, c, _ := heap.New(h, api.Shape{N: 1, Mask: 1}, false)
	h, _ = heap.Store(h, a, 0, b, true)
	h, _ = heap.Store(h, a, 2, c, true)
	h, _ = heap.Store(h, c, 0, a, true)
	m, _ := barrier.Make(h, 2)
	m, _ = barrier.Start(m)
	m, _, why := barrier.Shade(m, 1, a)
	if !same(m, chapter()) || why != api.OK {
		t.Fatal(m, why)
	}
	step := func(worker int, want api.Marker, no api.Errno) {
		t.Helper()
		got, why := mark.Scan(m, worker)
		if !same(got, want) || why != no {
			t.Fatalf("%v, %v, error %d; want %v, %v, %d", got.Grey, got.Hands, why, want.Grey, want.Hands, no)
		}
		m = got
	}
	on := func(marked []uint64, hands []api.Hand, queues ...[]uint64) api.Marker {
		return sample.On(sample.Marks(h, marked...), hands, queues...)
	}
	step(0, on([]uint64{a}, []api.Hand{{Obj: a}, {}}), api.OK)
	step(1, m, api.ErrNone)
	step(0, on([]uint64{a, b}, []api.Hand{{Obj: a, Field: 1}, {}}, []uint64{b}), api.OK)
	step(1, on([]uint64{a, b}, []api.Hand{{Obj: a, Field: 1}, {Obj: b}}), api.OK)
	step(0, on([]uint64{a, b, c}, []api.Hand{{Obj: a, Field: 3}, {Obj: b}}, []uint64{c}), api.OK)
	step(0, on([]uint64{a, b, c}, []api.Hand{{}, {Obj: b}}, []uint64{c}), api.OK)

	last := on([]uint64{a, b, c}, []api.Hand{{}, {Obj: c, Field: 1}})
	got, n, why := mark.Run(last, 0)
	done, no := mark.Done(got)
	if n != 1 || why != api.OK || !done || no != api.OK {
		t.Error("Run:", n, why, done, no)
	}
	if got, n, why := mark.Run(last, 2); !same(got, last) || n != 0 || why != api.ErrTask {
		t.Error("Run for worker 2:", n, why)
	}
	stopped, _ := barrier.Stop(got)
	if got, n, why := mark.Run(stopped); !same(got, stopped) || n != 0 || why != api.ErrState {
		t.Error("Run after Stop:", n, why)
	}
}

// TestTwoSteps: the example of the whole chapter: one object without fields that hold references takes two steps.
func TestTwoSteps(t *testing.T) {
	for _, o := range []sample.Object{{Addr: 16}, {Addr: 16, N: 1, Fields: []uint64{16}}} {
		h := sample.Heap(2, []api.Span{sample.Span(1, 1, 2, 1, 0)}, o)
		m := sample.On(sample.Marks(h, 16), make([]api.Hand, 1), []uint64{16})
		if got, n, why := mark.Run(m); !same(got, sample.On(m.Heap, make([]api.Hand, 1))) || n != 2 || why != api.OK {
			t.Error(n, why)
		}
	}
}
