package reach_test

import (
	"math"
	"slices"
	"testing"

	"besom/api"
	"besom/barrier"
	"besom/mark"
	"besom/reach"
	"besom/sample"
)

// TestInvalidComesFirst: what is not valid comes before all other errors, and there is no result.
func TestInvalidComesFirst(t *testing.T) {
	for i, g := range sample.BadGcs() {
		if got, why := reach.Start(g); !same(got, api.Gc{}) || why != api.ErrForm {
			t.Errorf("Start of invalid heap %d: error %d", i, why)
		}
		if got, n, why := reach.Finish(g); !same(got, api.Gc{}) || n != 0 || why != api.ErrForm {
			t.Errorf("Finish of invalid heap %d: %d, error %d", i, n, why)
		}
		if n, why := reach.Room(g); n != 0 || why != api.ErrForm {
			t.Errorf("Room of invalid heap %d: %d, error %d", i, n, why)
		}
	}
}

// 15.1

func TestMake(t *testing.T) {
	counts := append(sample.Ints(), -2, -1, 0, 1, 2, 3, 4, 5, 6, 64, 1023, 1024, 1025, 4096, 16384, 16385, 1<<32+1, 1<<60+1, math.MinInt+2)
	for _, pages := range counts {
		for _, workers := range counts {
			got, why := reach.Make(pages, workers)
			if pages < 1 || pages > 1024 || workers < 1 || workers > 4 {
				if !same(got, api.Gc{}) || why != api.ErrRange {
					t.Errorf("Make of %d pages for %d: error %d", pages, workers, why)
				}
				continue
			}
			want := sample.Gc(api.PhaseIdle, sample.Off(sample.Heap(pages, nil), workers))
			if !same(got, want) || why != api.OK || reach.Check(got) != api.OK {
				t.Errorf("Make of %d pages for %d: error %d", pages, workers, why)
			}
		}
	}
}

func TestCheck(t *testing.T) {
	for i, g := range append(gcs(400), sample.Gcs()...) {
		if why := reach.Check(g); why != api.OK || !valid(g) {
			t.Errorf("heap %d: error %d", i, why)
		}
	}
	for i, g := range sample.BadGcs() {
		if why := reach.Check(g); why != api.ErrForm || valid(g) {
			t.Errorf("invalid heap %d: error %d", i, why)
		}
	}
}

// TestCheckChanged: of collected heaps in which one thing was changed, those are valid that the chapter's words call so.
func TestCheckChanged(t *testing.T) {
	var good, bad int
	p := sample.Picks(52)
	for i, g := range gcs(300) {
		for k, g := range changed(&p, g) {
			want := api.OK
			if !valid(g) {
				want = api.ErrForm
				bad++
			} else {
				good++
			}
			if why := reach.Check(g); why != want {
				t.Errorf("heap %d, change %d: error %d, want %d", i, k, why, want)
			}
		}
	}
	if good < 1000 || bad < 1000 {
		t.Error(good, bad)
	}
}

// changed are copies of a collected heap in each of which one thing is other than it was.
func changed(p *sample.Picks, g api.Gc) []api.Gc {
	all := append(sample.Addrs(g.Marker.Heap), 0, 17, 1<<32+16)
	pick := func() uint64 { return all[p.Below(len(all))] }
	var out []api.Gc
	change := func(how func(g *api.Gc)) {
		g := sample.CopyGc(g)
		how(&g)
		out = append(out, g)
	}
	change(func(g *api.Gc) { g.Phase = api.Phase(p.Below(5)) })
	change(func(g *api.Gc) { g.Marker.On = !g.Marker.On })
	change(func(g *api.Gc) { g.Phase, g.Marker.On = api.Phase(p.Below(5)), p.Below(2) == 0 })
	change(func(g *api.Gc) { g.Marker.Heap = sample.Marks(g.Marker.Heap) })
	change(func(g *api.Gc) { g.Marker.Grey.Queues[0] = append(g.Marker.Grey.Queues[0], pick()) })
	change(func(g *api.Gc) { g.Table = sample.Pairs(8, pick(), pick()) })
	change(func(g *api.Gc) { g.Specials = append(g.Specials, sample.Cleanup(pick(), 1)) })
	change(func(g *api.Gc) { g.Specials = []api.Special{sample.Final(pick(), 1)} })
	change(func(g *api.Gc) { g.Weak = append(g.Weak, pick()) })
	change(func(g *api.Gc) { g.Weak = []uint64{pick()} })
	change(func(g *api.Gc) { g.Queue = []api.Item{sample.FinalItem(pick(), 1)} })
	change(func(g *api.Gc) { g.Queue = append(g.Queue, sample.FinalItem(pick(), 1)) })
	change(func(g *api.Gc) { g.Queue = append(g.Queue, sample.CleanItem(1)) })
	for i := range g.Marker.Heap.Spans {
		change(func(g *api.Gc) { g.Marker.Heap.Spans[i].Swept = !g.Marker.Heap.Spans[i].Swept })
	}
	return out
}

func TestStart(t *testing.T) {
	counts := map[api.Errno]int{}
	for i, g := range append(gcs(400), sample.Gcs()...) {
		want, no := started(g)
		got, why := reach.Start(g)
		if !same(got, want) || why != no {
			t.Errorf("Start of heap %d: error %d, want %d", i, why, no)
		}
		counts[no]++
	}
	if counts[api.OK] < 30 || counts[api.ErrState] < 100 {
		t.Error(counts)
	}
}

// TestStartShades: what was marked before is not any more, and the objects of the finalizers that wait are shaded with worker 0, each once, in order.
func TestStartShades(t *testing.T) {
	g := sample.SixLists()
	g.Marker.Heap = sample.Marks(g.Marker.Heap, 16, 26)
	g.Queue = []api.Item{sample.FinalItem(24, 1), sample.CleanItem(2), sample.FinalItem(18, 3), sample.FinalItem(24, 4)}
	want := sample.CopyGc(g)
	want.Phase = api.PhaseMark
	want.Marker = sample.On(sample.Marks(g.Marker.Heap, 18, 24), make([]api.Hand, 2), []uint64{24, 18})
	got, why := reach.Start(g)
	if !same(got, want) || why != api.OK {
		t.Error(got.Marker.Grey, why)
	}
	for _, phase := range []api.Phase{api.PhaseMark, api.PhaseLate} {
		on := sample.SixMarked(phase, 20, 22, 24)
		if got, why := reach.Start(on); !same(got, on) || why != api.ErrState {
			t.Errorf("Start in phase %d: error %d", phase, why)
		}
	}
	off := sample.ThreeLarge()
	if got, why := reach.Start(off); !same(got, off) || why != api.ErrState {
		t.Error("Start in PhaseSweep:", why)
	}
}

func TestRoom(t *testing.T) {
	var less int
	for i, g := range append(gcs(400), sample.Gcs()...) {
		want := 256 - len(g.Queue) - len(g.Specials)
		if got, why := reach.Room(g); got != want || why != api.OK {
			t.Errorf("Room of heap %d: %d, error %d; want %d", i, got, why, want)
		}
		if want < 0 {
			less++
		}
	}
	if less < 10 {
		t.Error(less)
	}
	g := sample.SixLists()
	g.Specials, g.Queue = g.Specials[:2], []api.Item{sample.CleanItem(1)}
	if n, why := reach.Room(g); n != 253 || why != api.OK {
		t.Error(n, why)
	}
	g.Specials = slices.Repeat([]api.Special{sample.Cleanup(16, 1)}, 64)
	for _, items := range []int{0, 191, 192, 193, 255, 256} {
		g.Queue = slices.Repeat([]api.Item{sample.CleanItem(1)}, items)
		if n, why := reach.Room(g); n != 192-items || why != api.OK {
			t.Errorf("Room with %d items: %d, error %d", items, n, why)
		}
	}
}

// 15.2

// action names what Finish did, or would not do.
func action(before, after api.Gc, why api.Errno) string {
	switch {
	case why == api.ErrState:
		return "ErrState"
	case why == api.ErrFull && before.Phase == api.PhaseMark:
		return "late, ErrFull"
	case why == api.ErrFull:
		return "sweep, ErrFull"
	case after.Phase == api.PhaseSweep:
		return "sweep"
	case after.Phase == before.Phase && before.Phase == api.PhaseMark:
		return "values"
	case after.Phase == before.Phase:
		return "late values"
	}
	return "late"
}

func TestFinish(t *testing.T) {
	counts := map[string]int{}
	for i, g := range append(gcs(1500), sample.Gcs()...) {
		for range 8 {
			want, many, no := finished(g)
			got, n, why := reach.Finish(g)
			if !same(got, want) || n != many || why != no {
				t.Fatalf("Finish of heap %d: %d, error %d; want %d, %d", i, n, why, many, no)
			}
			counts[action(g, got, why)]++
			if many == 0 && why != api.OK {
				break
			}
			g = settled(got)
		}
	}
	for _, what := range []string{"ErrState", "late, ErrFull", "sweep, ErrFull", "sweep", "values", "late values", "late"} {
		if counts[what] < 15 {
			t.Error(what, counts[what])
		}
	}
}

// TestFinishState: as long as something is in a queue or a hand, and when there is no marking, nothing is done.
func TestFinishState(t *testing.T) {
	all := []uint64{16, 18, 20, 22, 24, 26}
	for _, phase := range []api.Phase{api.PhaseMark, api.PhaseLate} {
		g := sample.SixMarked(phase, all...)
		for i, m := range []api.Marker{
			sample.On(g.Marker.Heap, make([]api.Hand, 2), []uint64{26}),
			sample.On(g.Marker.Heap, make([]api.Hand, 2), nil, []uint64{16}),
			sample.On(g.Marker.Heap, []api.Hand{{Obj: 16}, {}}),
			sample.On(g.Marker.Heap, []api.Hand{{}, {Obj: 22, Field: 1}}),
		} {
			g.Marker = m
			if got, n, why := reach.Finish(g); !same(got, g) || n != 0 || why != api.ErrState {
				t.Errorf("phase %d, marker %d: %d, error %d", phase, i, n, why)
			}
		}
	}
	idle, swept := sample.SixLists(), sample.SixLists()
	swept.Phase = api.PhaseSweep
	for _, g := range []api.Gc{idle, swept, sample.ThreeLarge()} {
		if got, n, why := reach.Finish(g); !same(got, g) || n != 0 || why != api.ErrState {
			t.Errorf("phase %d: %d, error %d", g.Phase, n, why)
		}
	}
}

// TestFinishValues: the values of the keys that are marked when Finish is called are shaded, in the order of the keys and each once; those of keys that are marked by that itself wait for the next call.
func TestFinishValues(t *testing.T) {
	for i, x := range []struct {
		marked, pairs, queue []uint64
	}{
		{[]uint64{16}, []uint64{16, 18, 18, 20}, []uint64{18}},
		{[]uint64{18}, []uint64{16, 20, 18, 16}, []uint64{16}},
		{[]uint64{16, 18}, []uint64{18, 20, 16, 26}, []uint64{26, 20}},
		{[]uint64{16, 18}, []uint64{18, 20, 16, 20}, []uint64{20}},
		{[]uint64{16, 18, 20}, []uint64{20, 26, 18, 16, 16, 26}, []uint64{26}},
		{[]uint64{16, 18, 20}, []uint64{20, 24, 18, 0, 16, 26}, []uint64{26, 24}},
		{[]uint64{26, 16}, []uint64{26, 22, 16, 26, 24, 18}, []uint64{22}},
	} {
		for _, phase := range []api.Phase{api.PhaseMark, api.PhaseLate} {
			g := sample.SixMarked(phase, x.marked...)
			g.Table = sample.Pairs(8, x.pairs...)
			g.Specials, g.Weak = []api.Special{sample.Cleanup(24, 1)}, []uint64{x.marked[0]}
			want := sample.CopyGc(g)
			want.Marker = sample.On(sample.Marks(g.Marker.Heap, append(x.queue, x.marked...)...), make([]api.Hand, 2), x.queue)
			if got, n, why := reach.Finish(g); !same(got, want) || n != len(x.queue) || why != api.OK {
				t.Errorf("Finish %d in phase %d: %v, %d, error %d", i, phase, got.Marker.Grey, n, why)
			}
		}
	}
}

// TestFinishLate: weak handles of white objects refer to 0, and finalizers of white objects wait, in order, and their objects are shaded. All else stays.
func TestFinishLate(t *testing.T) {
	g := sample.SixMarked(api.PhaseMark, 16, 18)
	g.Table = sample.Pairs(8, 16, 18, 18, 0, 20, 26, 26, 22)
	g.Specials = []api.Special{sample.Cleanup(16, 1), sample.Final(16, 2), sample.Cleanup(20, 3), sample.Final(20, 4), sample.Cleanup(20, 5), sample.Final(26, 6)}
	g.Weak = []uint64{26, 18, 0, 22, 16, 20}
	g.Queue = []api.Item{sample.CleanItem(7), sample.FinalItem(18, 8)}
	want := sample.CopyGc(g)
	want.Phase = api.PhaseLate
	want.Marker = sample.On(sample.Marks(g.Marker.Heap, 16, 18, 20, 26), make([]api.Hand, 2), []uint64{20, 26})
	want.Specials = []api.Special{sample.Cleanup(16, 1), sample.Final(16, 2), sample.Cleanup(20, 3), sample.Cleanup(20, 5)}
	want.Weak = []uint64{0, 18, 0, 0, 16, 0}
	want.Queue = append(want.Queue, sample.FinalItem(20, 4), sample.FinalItem(26, 6))
	if got, n, why := reach.Finish(g); !same(got, want) || n != 2 || why != api.OK {
		t.Error(got.Weak, got.Queue, got.Specials, got.Marker.Grey, n, why)
	}
}

// TestFinishSweep: cleanups of white objects wait, in order and with no address, white keys are deleted, and only what is marked is current.
func TestFinishSweep(t *testing.T) {
	g := busy()
	want := sample.CopyGc(g)
	want.Phase = api.PhaseSweep
	want.Marker = sample.Off(g.Marker.Heap, 2)
	want.Marker.Heap.Spans[0].Swept = false
	want.Table = sample.Without(g.Table, 20, 26)
	want.Specials = []api.Special{sample.Cleanup(16, 1), sample.Final(16, 2), sample.Final(22, 5)}
	want.Queue = append(want.Queue, sample.CleanItem(3), sample.CleanItem(4), sample.CleanItem(6))
	if got, n, why := reach.Finish(g); !same(got, want) || n != 3 || why != api.OK {
		t.Error(got.Table, got.Queue, got.Specials, n, why)
	}
}

// TestFinishFull: items wait as long as the queue has no more than it may; if it would, nothing is done.
func TestFinishFull(t *testing.T) {
	for _, phase := range []api.Phase{api.PhaseMark, api.PhaseLate} {
		for _, before := range []int{0, 251, 253, 254, 255, 256} {
			for _, more := range []int{0, 1, 2, 3} {
				g := sample.SixMarked(phase, 16, 18)
				g.Table, g.Weak, g.Specials = sample.Pairs(8, 20, 26), []uint64{18}, nil
				for i, addr := range []uint64{20, 24, 26}[:more] {
					s := sample.Final(addr, uint64(i))
					if phase == api.PhaseLate {
						s = sample.Cleanup(addr, uint64(i))
					}
					g.Specials = append(g.Specials, s)
				}
				g.Queue = slices.Repeat([]api.Item{sample.FinalItem(16, 1)}, before)
				got, n, why := reach.Finish(g)
				if before+more > 256 {
					if !same(got, g) || n != 0 || why != api.ErrFull {
						t.Errorf("phase %d, %d and %d: %d, error %d", phase, before, more, n, why)
					}
				} else if len(got.Queue) != before+more || n != more || why != api.OK || got.Phase != phase+1 {
					t.Errorf("phase %d, %d and %d: %d, error %d", phase, before, more, n, why)
				}
			}
		}
	}
}

// TestFinishValuesFirst: values are shaded even where the queue is full.
func TestFinishValuesFirst(t *testing.T) {
	g := sample.SixMarked(api.PhaseMark, 16)
	g.Queue = slices.Repeat([]api.Item{sample.CleanItem(1)}, 256)
	got, n, why := reach.Finish(g)
	if n != 1 || why != api.OK || got.Phase != api.PhaseMark {
		t.Error(n, why)
	}
	for range 2 {
		got, n, why = reach.Finish(settled(got))
	}
	if n != 0 || why != api.ErrFull || got.Phase != api.PhaseMark {
		t.Error(n, why)
	}
}

// TestFinishLarge: the greatest heaps are collected, with as much beside them as there may be.
func TestFinishLarge(t *testing.T) {
	for i, h := range []api.Heap{sample.FullPages(), sample.FullSpans()} {
		all := sample.Addrs(h)
		g := sample.Gc(api.PhaseIdle, sample.Off(h, 4))
		var pairs []uint64
		for k := range 31 {
			pairs = append(pairs, all[k], all[(k*7+5)%31])
		}
		g.Table, g.Weak = sample.Pairs(64, pairs...), all[:64]
		for _, addr := range all[:64] {
			g.Specials = append(g.Specials, sample.Final(addr, addr))
		}
		g.Queue = slices.Repeat([]api.Item{sample.CleanItem(1)}, 192)
		g, why := reach.Start(g)
		if why != api.OK {
			t.Fatal(i, why)
		}
		// Nothing is reachable but from finalizers.
		for k, many := range []int{64, 0} {
			got, n, why := reach.Finish(g)
			if n != many || why != api.OK {
				t.Fatalf("heap %d, Finish %d: %d, error %d", i, k, n, why)
			}
			g = got
			if g.Marker.On {
				g.Marker, _, _ = mark.Run(g.Marker)
			}
		}
		if g.Phase != api.PhaseSweep || len(g.Queue) != 256 || len(sample.Addrs(g.Marker.Heap)) != len(all) {
			t.Error(i, g.Phase, len(g.Queue))
		}
	}
}

// TestChapter: the chapter's own examples, one after the other.
func TestChapter(t *testing.T) {
	g, why := reach.Make(4, 2)
	var l [6]uint64
	for i := range l {
		m, addr, no := barrier.New(g.Marker, api.Shape{N: 1, Mask: 1})
		g.Marker, l[i], why = m, addr, max(why, no)
	}
	m, no := barrier.Write(g.Marker, 0, l[3], 0, l[4], true)
	g.Marker = m
	lists := sample.SixLists()
	g.Table, g.Specials, g.Weak = lists.Table, lists.Specials, lists.Weak
	if !same(g, lists) || why != api.OK || no != api.OK {
		t.Fatal(g, why, no)
	}
	g, why = reach.Start(g)
	g.Marker, _, no = barrier.Shade(g.Marker, 0, l[0])
	if why != api.OK || no != api.OK {
		t.Fatal(why, no)
	}
	finish := func(many int, phase api.Phase, marked, handles []uint64) {
		t.Helper()
		g.Marker, _, _ = mark.Run(g.Marker)
		got, n, why := reach.Finish(g)
		if n != many || why != api.OK || got.Phase != phase || !slices.Equal(sample.Marked(got.Marker.Heap), marked) || !slices.Equal(got.Weak, handles) {
			t.Fatalf("Finish: %d, error %d; phase %d, marked %d, handles %d", n, why, got.Phase, sample.Marked(got.Marker.Heap), got.Weak)
		}
		g = got
	}
	finish(1, api.PhaseMark, l[:2], l[2:5])
	finish(1, api.PhaseMark, l[:3], l[2:5])
	finish(1, api.PhaseLate, l[:4], []uint64{l[2], 0, 0})
	if got, n, why := reach.Finish(g); !same(got, g) || n != 0 || why != api.ErrState {
		t.Error("Finish at once:", n, why)
	}
	finish(1, api.PhaseLate, l[:], []uint64{l[2], 0, 0})
	finish(0, api.PhaseSweep, l[:], []uint64{l[2], 0, 0})
	if len(entries(g.Table)) != 3 || !slices.Equal(g.Queue, []api.Item{sample.FinalItem(l[3], 1)}) {
		t.Error(g.Table, g.Queue)
	}
}

// TestKeyAndValue: the example of the whole chapter: if a key is marked and its value is not, Finish shades the value, and marking continues.
func TestKeyAndValue(t *testing.T) {
	g := sample.SixMarked(api.PhaseMark, 24)
	got, n, why := reach.Finish(g)
	want := sample.CopyGc(g)
	want.Marker = sample.On(sample.Marks(g.Marker.Heap, 24, 26), make([]api.Hand, 2), []uint64{26})
	if done, no := mark.Done(got.Marker); !same(got, want) || n != 1 || why != api.OK || done || no != api.OK {
		t.Error(got.Marker.Grey, n, why, done, no)
	}
}
