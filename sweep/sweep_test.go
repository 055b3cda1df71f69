package sweep_test

import (
	"math"
	"slices"
	"testing"

	"besom/api"
	"besom/barrier"
	"besom/heap"
	"besom/reach"
	"besom/sample"
	"besom/sweep"
)

// TestSamplesAreValid: what the tests try is valid, and in all phases.
func TestSamplesAreValid(t *testing.T) {
	counts := map[api.Phase]int{}
	left := 0
	for i, g := range append(gcs(400), arguments()...) {
		if why := reach.Check(g); why != api.OK {
			t.Errorf("heap %d: error %d", i, why)
		}
		counts[g.Phase]++
		left += rest(g)
	}
	if len(counts) != 4 || counts[api.PhaseSweep] < 200 || left < 300 {
		t.Error(counts, left)
	}
}

// TestInvalidComesFirst: what is not valid comes before all other errors, and there is no result.
func TestInvalidComesFirst(t *testing.T) {
	for i, g := range sample.BadGcs() {
		if got, l, why := sweep.Sweep(g); !same(got, api.Gc{}) || len(l) != 0 || why != api.ErrForm {
			t.Errorf("Sweep of invalid heap %d: %d, error %d", i, l, why)
		}
		if n, why := sweep.Rest(g); n != 0 || why != api.ErrForm {
			t.Errorf("Rest of invalid heap %d: %d, error %d", i, n, why)
		}
		if got, l, why := sweep.All(g); !same(got, api.Gc{}) || len(l) != 0 || why != api.ErrForm {
			t.Errorf("All of invalid heap %d: %d, error %d", i, l, why)
		}
		for _, s := range []api.Shape{{}, {N: 48}, {N: -1}} {
			if got, addr, why := sweep.Alloc(g, s); !same(got, api.Gc{}) || addr != 0 || why != api.ErrForm {
				t.Errorf("Alloc in invalid heap %d: %d, error %d", i, addr, why)
			}
		}
		if a, why := sweep.Account(g); a != (api.Account{}) || why != api.ErrForm {
			t.Errorf("Account of invalid heap %d: %v, error %d", i, a, why)
		}
	}
}

// 16.1

func TestSweep(t *testing.T) {
	var freed, ended, errors int
	for i, g := range append(gcs(400), sample.Gcs()...) {
		for more := true; more; {
			want, l, no := swept(g)
			got, addrs, why := sweep.Sweep(g)
			if !same(got, want) || !slices.Equal(addrs, l) || why != no {
				t.Fatalf("Sweep of heap %d: %d, error %d; want %d, %d", i, addrs, why, l, no)
			}
			freed += len(l)
			if no != api.OK {
				errors++
			}
			if g.Phase == api.PhaseSweep && got.Phase == api.PhaseIdle {
				ended++
			}
			more = no == api.OK && len(g.Marker.Heap.Spans) < 100
			g = got
		}
	}
	if freed < 500 || ended < 200 || errors < 200 {
		t.Error(freed, ended, errors)
	}
}

// TestSweepSteps: each step is of the first span that is left: it may go as a whole, lose objects, or keep all.
func TestSweepSteps(t *testing.T) {
	g := busy()
	for i, x := range []struct {
		freed  []uint64
		firsts []int
		phase  api.Phase
	}{
		{[]uint64{32}, []int{1, 4, 6}, api.PhaseSweep},
		{[]uint64{70, 78}, []int{1, 4, 6}, api.PhaseSweep},
		{nil, []int{1, 4, 6}, api.PhaseIdle},
	} {
		got, freed, why := sweep.Sweep(g)
		var firsts []int
		for _, s := range got.Marker.Heap.Spans {
			firsts = append(firsts, s.First)
		}
		if !slices.Equal(freed, x.freed) || !slices.Equal(firsts, x.firsts) || got.Phase != x.phase || why != api.OK {
			t.Errorf("step %d: %d, error %d; spans at %d, phase %d", i, freed, why, firsts, got.Phase)
		}
		g = got
	}
	if n, why := sweep.Rest(g); n != 0 || why != api.OK {
		t.Error(n, why)
	}
}

// TestSweepNothing: where no span is left from the beginning, the step ends the phase.
func TestSweepNothing(t *testing.T) {
	empty, none := sample.SixLists(), sample.Gc(api.PhaseSweep, sample.Off(sample.Heap(3, nil), 4))
	empty.Phase = api.PhaseSweep
	for i, g := range []api.Gc{empty, none} {
		want := sample.CopyGc(g)
		want.Phase = api.PhaseIdle
		if got, freed, why := sweep.Sweep(g); !same(got, want) || len(freed) != 0 || why != api.OK {
			t.Errorf("Sweep of heap %d: %d, error %d", i, freed, why)
		}
		if got, freed, why := sweep.All(g); !same(got, want) || len(freed) != 0 || why != api.OK {
			t.Errorf("All of heap %d: %d, error %d", i, freed, why)
		}
		if n, why := sweep.Rest(g); n != 0 || why != api.OK {
			t.Errorf("Rest of heap %d: %d, error %d", i, n, why)
		}
	}
}

func TestState(t *testing.T) {
	for _, g := range []api.Gc{sample.SixLists(), sample.SixMarked(api.PhaseMark, 16), sample.SixMarked(api.PhaseLate, 20, 22, 24)} {
		if got, l, why := sweep.Sweep(g); !same(got, g) || len(l) != 0 || why != api.ErrState {
			t.Errorf("Sweep in phase %d: %d, error %d", g.Phase, l, why)
		}
		if got, l, why := sweep.All(g); !same(got, g) || len(l) != 0 || why != api.ErrState {
			t.Errorf("All in phase %d: %d, error %d", g.Phase, l, why)
		}
		if n, why := sweep.Rest(g); n != 0 || why != api.OK {
			t.Errorf("Rest in phase %d: %d, error %d", g.Phase, n, why)
		}
	}
}

func TestRest(t *testing.T) {
	counts := map[int]int{}
	for i, g := range append(gcs(400), sample.Gcs()...) {
		want := rest(g)
		if n, why := sweep.Rest(g); n != want || why != api.OK {
			t.Errorf("Rest of heap %d: %d, error %d; want %d", i, n, why, want)
		}
		counts[want]++
	}
	for n := range 4 {
		if counts[n] < 20 {
			t.Error(n, counts[n])
		}
	}
}

func TestAll(t *testing.T) {
	var freed, errors int
	for i, g := range append(gcs(400), sample.Gcs()...) {
		want, l, no := sweptAll(g)
		got, addrs, why := sweep.All(g)
		if !same(got, want) || !slices.Equal(addrs, l) || why != no {
			t.Errorf("All of heap %d: %d, error %d; want %d, %d", i, addrs, why, l, no)
		}
		freed += len(l)
		if no != api.OK {
			errors++
		}
	}
	if freed < 500 || errors < 100 {
		t.Error(freed, errors)
	}
}

// large are collected heaps in PhaseSweep that are as great as there may be, of whose objects every second one is marked, or none.
func large() []api.Gc {
	var out []api.Gc
	for _, h := range []api.Heap{sample.FullPages(), sample.FullSpans()} {
		for _, marked := range []uint64{0, 0x55} {
			h := sample.CopyHeap(h)
			for i := range h.Spans {
				s := &h.Spans[i]
				s.Mark.W[0], s.Swept = s.Alloc.W[0]&marked*uint64(i%2), false
			}
			// What is marked refers to nothing, and to nothing that goes.
			for _, o := range sample.Objects(h) {
				clear(h.Arena.Words[o.Addr+1:][:o.N])
			}
			out = append(out, sample.Gc(api.PhaseSweep, sample.Off(h, 4)))
		}
	}
	return out
}

func TestLarge(t *testing.T) {
	for i, g := range large() {
		if why := reach.Check(g); why != api.OK {
			t.Fatal(i, why)
		}
		want, l, _ := sweptAll(g)
		if got, addrs, why := sweep.All(g); !same(got, want) || !slices.Equal(addrs, l) || why != api.OK {
			t.Errorf("All of heap %d: %d objects, error %d; want %d", i, len(addrs), why, len(l))
		}
		for _, s := range []api.Shape{{}, {N: 48}} {
			want, at, _, no := made(g, s)
			if got, addr, why := sweep.Alloc(g, s); !same(got, want) || addr != at || why != no {
				t.Errorf("Alloc in heap %d, %v: %d, error %d; want %d, %d", i, s, addr, why, at, no)
			}
		}
	}
}

// 16.2

func TestAlloc(t *testing.T) {
	p := sample.Picks(72)
	counts, sweeps := map[api.Errno]int{}, map[int]int{}
	for i, g := range append(gcs(200), sample.Gcs()...) {
		l := shapes()
		for range 12 {
			s := l[p.Below(len(l))]
			want, at, steps, no := made(g, s)
			got, addr, why := sweep.Alloc(g, s)
			if !same(got, want) || addr != at || why != no {
				t.Fatalf("Alloc in heap %d, %v: %d, error %d; want %d, %d", i, s, addr, why, at, no)
			}
			counts[no]++
			if no == api.OK {
				sweeps[min(steps, 3)]++
			}
			g = got
		}
	}
	if counts[api.OK] < 500 || counts[api.ErrForm] < 500 || counts[api.ErrFull] < 500 || sweeps[1] < 20 || sweeps[2] < 5 {
		t.Error(counts, sweeps)
	}
}

// TestAllocErrors: in each phase, a shape that is not valid comes first, and where there is no room, nothing is changed, what could be swept neither.
func TestAllocErrors(t *testing.T) {
	idle := sample.Gc(api.PhaseIdle, sample.Off(sample.AllSwept(sample.ThreeLarge().Marker.Heap), 1))
	mark := sample.Gc(api.PhaseMark, sample.On(idle.Marker.Heap, make([]api.Hand, 1)))
	late := sample.Gc(api.PhaseLate, mark.Marker)
	kept := sample.ThreeLarge()
	kept.Marker.Heap = sample.Marks(kept.Marker.Heap, 16, 48)
	for _, g := range []api.Gc{idle, mark, late, kept} {
		for _, s := range []api.Shape{{N: 49}, {N: -1}, {N: 2, Mask: 4}, {N: math.MaxInt}, {N: math.MinInt}, {Mask: 1}, {N: 48, Mask: math.MaxUint64}} {
			if got, addr, why := sweep.Alloc(g, s); !same(got, g) || addr != 0 || why != api.ErrForm {
				t.Errorf("Alloc in phase %d, %v: %d, error %d", g.Phase, s, addr, why)
			}
		}
		for _, s := range []api.Shape{{N: 16}, {N: 20}, {N: 48}} {
			if got, addr, why := sweep.Alloc(g, s); !same(got, g) || addr != 0 || why != api.ErrFull {
				t.Errorf("Alloc in phase %d, %v: %d, error %d", g.Phase, s, addr, why)
			}
		}
	}
	for _, g := range []api.Gc{idle, mark, late} {
		for _, s := range []api.Shape{{}, {N: 3}, {N: 15}} {
			if got, addr, why := sweep.Alloc(g, s); !same(got, g) || addr != 0 || why != api.ErrFull {
				t.Errorf("Alloc in phase %d, %v: %d, error %d", g.Phase, s, addr, why)
			}
		}
	}
}

// TestAllocMark: a new object is marked while objects are marked, and only then; in each phase it is current.
func TestAllocMark(t *testing.T) {
	for _, g := range []api.Gc{sample.SixLists(), sample.SixMarked(api.PhaseMark, 16), sample.SixMarked(api.PhaseLate, 20, 22, 24), busy()} {
		for _, n := range []int{1, 3, 9} {
			got, addr, why := sweep.Alloc(g, api.Shape{N: n})
			marked, no := heap.Marked(got.Marker.Heap, addr)
			if why != api.OK || no != api.OK || marked != g.Marker.On || got.Phase != g.Phase || rest(got) != rest(g) || !sample.SameGreys(got.Marker.Grey, g.Marker.Grey) {
				t.Errorf("phase %d: marked %v, error %d, %d", g.Phase, marked, why, no)
			}
		}
	}
}

// TestAllocSteps: no more steps are executed than the object needs, and the phase ends only with the last one.
func TestAllocSteps(t *testing.T) {
	for i, x := range []struct {
		shape api.Shape
		addr  uint64
		rest  int
		phase api.Phase
	}{
		{api.Shape{N: 3}, 16, 2, api.PhaseSweep},
		{api.Shape{N: 15}, 16, 2, api.PhaseSweep},
		{api.Shape{N: 16}, 16, 1, api.PhaseSweep},
		{api.Shape{N: 31}, 16, 1, api.PhaseSweep},
		{api.Shape{N: 32}, 16, 0, api.PhaseIdle},
		{api.Shape{N: 48}, 16, 0, api.PhaseIdle},
	} {
		got, addr, why := sweep.Alloc(sample.ThreeLarge(), x.shape)
		if addr != x.addr || rest(got) != x.rest || got.Phase != x.phase || why != api.OK {
			t.Errorf("Alloc %d: %d, error %d; %d spans left, phase %d", i, addr, why, rest(got), got.Phase)
		}
	}
	// A slot that a step frees in a span that stays, and one that was free before.
	g := sample.Gc(api.PhaseSweep, sample.Off(sample.Heap(3, []api.Span{sample.Unswept(sample.Span(1, 1, 8, 3, 2)), sample.Unswept(sample.Span(2, 1, 8, 1, 1))},
		sample.Object{Addr: 16, N: 7}, sample.Object{Addr: 24, N: 7}, sample.Object{Addr: 32, N: 7}), 1))
	for i, x := range []struct {
		addr  uint64
		phase api.Phase
		why   api.Errno
	}{{16, api.PhaseSweep, api.OK}, {40, api.PhaseIdle, api.OK}, {0, api.PhaseIdle, api.ErrFull}} {
		got, addr, why := sweep.Alloc(g, api.Shape{N: 4})
		if addr != x.addr || got.Phase != x.phase || why != x.why {
			t.Errorf("Alloc %d: %d, error %d; phase %d", i, addr, why, got.Phase)
		}
		g = got
	}
}

// TestAllocRoomFirst: as long as there is room, nothing is swept, not even where the first span that is left would have some.
func TestAllocRoomFirst(t *testing.T) {
	h := sample.Heap(4, []api.Span{sample.Unswept(sample.Span(1, 1, 4, 3, 0)), sample.Span(2, 1, 4, 1, 0)},
		sample.Object{Addr: 16, N: 3}, sample.Object{Addr: 20, N: 3}, sample.Object{Addr: 32, N: 3})
	g := sample.Gc(api.PhaseSweep, sample.Off(h, 1))
	for i, want := range []uint64{36, 40, 44, 48, 52, 56, 60, 16} {
		left := 1
		if want == 16 {
			left = 0
		}
		got, addr, why := sweep.Alloc(g, api.Shape{N: 3})
		if addr != want || rest(got) != left || why != api.OK {
			t.Errorf("Alloc %d: %d, error %d; want %d", i, addr, why, want)
		}
		g = got
	}
}

// 16.3

func TestAccount(t *testing.T) {
	var objects, free int
	for i, g := range append(gcs(400), sample.Gcs()...) {
		want := accounted(g)
		if a, why := sweep.Account(g); a != want || why != api.OK {
			t.Errorf("Account of heap %d: %v, error %d; want %v", i, a, why, want)
		}
		objects, free = objects+want.Objects, free+want.Free
	}
	if objects < 1000 || free < 1000 {
		t.Error(objects, free)
	}
	if a, why := sweep.Account(busy()); a != (api.Account{Pages: 8, Free: 2, Spans: 5, Objects: 6}) || why != api.OK {
		t.Error(a, why)
	}
}

// TestChapter: the chapter's own examples, one after the other.
func TestChapter(t *testing.T) {
	g, why := reach.Make(5, 1)
	for i, n := range []int{15, 15, 20} {
		m, addr, no := barrier.New(g.Marker, api.Shape{N: n})
		if addr != uint64(16+16*i) || why != api.OK || no != api.OK {
			t.Fatal(addr, why, no)
		}
		g.Marker = m
	}
	if got, addr, why := sweep.Alloc(g, api.Shape{}); !same(got, g) || addr != 0 || why != api.ErrFull {
		t.Error("Alloc before the collection:", addr, why)
	}
	g, _ = reach.Start(g)
	g, _, _ = reach.Finish(g)
	g, _, _ = reach.Finish(g)
	if !same(g, sample.ThreeLarge()) {
		t.Fatal(g)
	}
	if n, why := sweep.Rest(g); n != 3 || why != api.OK {
		t.Error("Rest:", n, why)
	}
	if got, addr, why := sweep.Alloc(g, api.Shape{N: 49}); !same(got, g) || addr != 0 || why != api.ErrForm {
		t.Error("Alloc of 49 fields:", addr, why)
	}
	g, addr, why := sweep.Alloc(g, api.Shape{N: 3})
	if addr != 16 || why != api.OK {
		t.Error("Alloc:", addr, why)
	}
	if a, why := sweep.Account(g); a != (api.Account{Pages: 5, Free: 0, Spans: 4, Objects: 1}) || why != api.OK {
		t.Error("Account:", a, why)
	}
	g, freed, why := sweep.All(g)
	if !slices.Equal(freed, []uint64{32, 48}) || g.Phase != api.PhaseIdle || why != api.OK {
		t.Error("All:", freed, g.Phase, why)
	}
	if a, why := sweep.Account(g); a != (api.Account{Pages: 5, Free: 3, Spans: 1, Objects: 1}) || why != api.OK {
		t.Error("Account:", a, why)
	}
	if got, freed, why := sweep.Sweep(g); !same(got, g) || len(freed) != 0 || why != api.ErrState {
		t.Error("Sweep:", freed, why)
	}
}

// TestTwoSpans: the example of the whole chapter: two spans whose objects are all unmarked are gone after two steps.
func TestTwoSpans(t *testing.T) {
	h := sample.Heap(6, []api.Span{sample.Unswept(sample.Span(1, 1, 2, 0xff, 0)), sample.Unswept(sample.Span(3, 3, 0, 1, 0))}, sample.Object{Addr: 48, N: 40})
	for slot := range 8 {
		h.Arena.Words[16+2*slot] = sample.Header(1, 0)
	}
	g := sample.Gc(api.PhaseSweep, sample.Off(h, 1))
	for range 2 {
		if g.Phase != api.PhaseSweep {
			t.Error(g.Phase)
		}
		g, _, _ = sweep.Sweep(g)
	}
	if a, why := sweep.Account(g); a != (api.Account{Pages: 6, Free: 5}) || g.Phase != api.PhaseIdle || why != api.OK {
		t.Error(a, g.Phase, why)
	}
}
