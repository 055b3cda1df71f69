package world_test

import (
	"slices"
	"testing"

	"besom/api"
	"besom/sample"
	"besom/world"
)

// counts are how much of all kinds happened in stories.
type counts struct {
	picks, lost, handles, gone, specials, ran int
}

// tell lets picks happen as they come, in worlds that New made, and holds each of them to the story. Then it hands the world to end.
func tell(t *testing.T, seed uint64, stories, picks int, end func(w api.World, s *sample.Story) api.World) counts {
	t.Helper()
	p := sample.Picks(seed)
	var n counts
	for i := range stories {
		w, why := world.New(3+p.Below(7), 1+i%4, 1+i/4%4)
		if why != api.OK {
			t.Fatal(why)
		}
		s := sample.NewStory(len(w.Runtime.Mutators))
		for k := range picks {
			pick := sample.SomePick(&p, w.Runtime, uint64(2*k+p.Below(2)))
			got, happened := happen(t, w, s, pick)
			if l, why := world.Live(got); k%8 == 0 && !slices.Equal(l, s.Live()) || why != api.OK {
				t.Fatalf("story %d, after %v: %d are live, want %d", i, pick, l, s.Live())
			}
			if happened {
				n.picks++
			}
			w = got
		}
		n.lost += len(sample.Addrs(w.Runtime.Gc.Marker.Heap)) - len(s.Live())
		w = end(w, s)
		handles, gone := s.Gone()
		specials, ran := s.Ran()
		n = counts{n.picks, n.lost, n.handles + handles, n.gone + gone, n.specials + specials, n.ran + ran}
	}
	return n
}

// happen lets a pick happen, and holds it to the story, if it was not refused.
func happen(t *testing.T, w api.World, s *sample.Story, pick api.Pick) (api.World, bool) {
	t.Helper()
	got, heard, why := world.Do(w, pick)
	if why != api.OK {
		if !same(got, w) {
			t.Fatalf("%v is refused, and something changes", pick)
		}
		return w, false
	}
	if fault := s.Tell(pick, got.Runtime, heard); fault != "" {
		t.Fatalf("after %v: %s", pick, fault)
	}
	if world.Check(got) != api.OK {
		t.Fatalf("after %v, the world is not valid", pick)
	}
	return got, true
}

// 20.5, 20.6 and 20.7

// TestStory: whatever happens, each reachable object is there as it was stored last, what is loaded is what was stored last, a weak handle refers to its object or, once that was not reachable, for ever to nothing, and each finalizer and each cleanup is run at most once, when it is to be.
func TestStory(t *testing.T) {
	n := tell(t, 161, 60, 400, func(w api.World, s *sample.Story) api.World { return w })
	if n.picks < 8000 || n.handles < 200 || n.gone < 50 || n.specials < 400 || n.ran < 100 {
		t.Error(n)
	}
}

// TestAfterwards: the same holds when nobody does anything for a while, and then goes on.
func TestAfterwards(t *testing.T) {
	p := sample.Picks(162)
	tell(t, 163, 12, 150, func(w api.World, s *sample.Story) api.World {
		for k := range 12 {
			w = quiet(t, w, s, 10)
			for i := range 12 {
				w, _ = happen(t, w, s, sample.SomePick(&p, w.Runtime, uint64(1000+100*k+i)))
			}
		}
		return w
	})
}

// quiet executes so many rounds of tasks, task by task.
func quiet(t *testing.T, w api.World, s *sample.Story, rounds int) api.World {
	t.Helper()
	for range rounds {
		for _, task := range sample.Round(w.Runtime) {
			w, _ = happen(t, w, s, api.Pick{Task: task})
		}
	}
	return w
}

// 20.8

// TestFairness: if no mutator does anything any more, all that is not reachable is freed, and what waits, or is to, is run.
func TestFairness(t *testing.T) {
	n := tell(t, 164, 24, 200, func(w api.World, s *sample.Story) api.World {
		w = quiet(t, w, s, 700)
		if due, items := s.Due(), len(w.Runtime.Gc.Queue); due > 0 || items > 0 {
			t.Errorf("%d are to be run, and %d wait", due, items)
		}
		if l := sample.Addrs(w.Runtime.Gc.Marker.Heap); !slices.Equal(l, s.Live()) {
			t.Errorf("%d exist, and %d are live", l, s.Live())
		}
		return w
	})
	if n.lost < 50 || n.ran < 50 {
		t.Error(n)
	}
}

// TestFairFrees: the same by Fair alone, from worlds that nobody made step by step, in each phase, and with queues that are full.
func TestFairFrees(t *testing.T) {
	freed, items := 0, 0
	for i, w := range worlds(60) {
		start := w
		for range 12 {
			var why api.Errno
			if w, _, why = world.Fair(w, 64); why != api.OK {
				t.Fatal(why)
			}
			if len(w.Runtime.Gc.Queue) == 0 && slices.Equal(sample.Addrs(w.Runtime.Gc.Marker.Heap), live(w)) {
				break
			}
		}
		l := sample.Addrs(w.Runtime.Gc.Marker.Heap)
		if alive, why := world.Live(w); !slices.Equal(l, alive) || why != api.OK || len(w.Runtime.Gc.Queue) > 0 {
			t.Errorf("world %d: %d exist, %d are live, %d wait", i, l, alive, len(w.Runtime.Gc.Queue))
		}
		freed, items = freed+len(sample.Addrs(start.Runtime.Gc.Marker.Heap))-len(l), items+len(start.Runtime.Gc.Queue)
	}
	if freed < 200 || items < 1000 {
		t.Error(freed, items)
	}
}

// TestFairRuns: what was registered is run once, by Fair, the finalizer first, and its object is freed after that.
func TestFairRuns(t *testing.T) {
	w, _ := world.New(4, 1, 2)
	for _, op := range []api.Op{
		{Kind: api.OpNew, A: 3, Shape: api.Shape{N: 2, Mask: 1}}, {Kind: api.OpConst, A: 2, W: 9}, {Kind: api.OpStore, A: 3, B: 2, Field: 1},
		{Kind: api.OpClean, A: 3, W: 1}, {Kind: api.OpFinal, A: 3, W: 3}, {Kind: api.OpClean, A: 3, W: 4}, {Kind: api.OpWeak, A: 2, B: 3}, {Kind: api.OpNil, A: 3},
	} {
		w, _ = operate(t, w, op)
	}
	final := api.Ran{Item: sample.FinalItem(16, 3), Fields: []uint64{0, 9}}
	w, _, _ = world.Fair(w, 64)
	// The finalizer brought its object back, so that its cleanups wait for another time, but the weak handle does not.
	if w.Runtime.Mutators[0].Regs[0] != sample.Ref(16) || !slices.EqualFunc(w.Ran, []api.Ran{final}, sample.SameRan) || w.Runtime.Gc.Weak[0] != 0 {
		t.Error(w.Runtime.Mutators, w.Ran, w.Runtime.Gc.Weak)
	}
	w, _ = operate(t, w, api.Op{Kind: api.OpNil, A: 0})
	w, _, _ = world.Fair(w, 64)
	want := []api.Ran{final, {Item: sample.CleanItem(1)}, {Item: sample.CleanItem(4)}}
	if l := sample.Addrs(w.Runtime.Gc.Marker.Heap); len(l) > 0 || !slices.EqualFunc(w.Ran, want, sample.SameRan) {
		t.Error(l, w.Ran)
	}
	got, _, _ := world.Fair(w, 64)
	if !slices.EqualFunc(got.Ran, want, sample.SameRan) {
		t.Error(got.Ran)
	}
}
