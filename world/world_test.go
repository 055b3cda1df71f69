package world_test

import (
	"math"
	"slices"
	"testing"

	"besom/api"
	"besom/sample"
	"besom/world"
)

// TestInvalidComesFirst: what is not valid comes before all other errors, and there is no result.
func TestInvalidComesFirst(t *testing.T) {
	p := sample.Picks(152)
	l := picks(&p)
	rounds := append(sample.Ints(), -1, 0, 1, 64, 65)
	for i, w := range sample.BadWorlds() {
		pick := l[i%len(l)]
		if got, heard, why := world.Do(w, pick); !same(got, api.World{}) || !sameHeard(heard, api.Heard{}) || why != api.ErrForm {
			t.Errorf("Do in invalid world %d, %v: %v, error %d", i, pick, heard, why)
		}
		if got, n, why := world.Fair(w, rounds[i%len(rounds)]); !same(got, api.World{}) || n != 0 || why != api.ErrForm {
			t.Errorf("Fair in invalid world %d: %d, error %d", i, n, why)
		}
		if l, why := world.Live(w); len(l) != 0 || why != api.ErrForm {
			t.Errorf("Live in invalid world %d: %d, error %d", i, l, why)
		}
	}
}

func sameHeard(a, b api.Heard) bool {
	return a.Reg == b.Reg && sample.SameRan(a.Ran, b.Ran)
}

// 20.1

func TestNew(t *testing.T) {
	counts := append(sample.Ints(), -2, -1, 0, 1, 2, 3, 4, 5, 6, 1023, 1024, 1025, 1<<32+1, 1<<60+1)
	for _, pages := range counts {
		for _, workers := range counts {
			for _, mutators := range counts {
				got, why := world.New(pages, workers, mutators)
				if pages < 1 || pages > 1024 || min(workers, mutators) < 1 || max(workers, mutators) > 4 {
					if !same(got, api.World{}) || why != api.ErrRange {
						t.Errorf("New of %d, %d, %d: error %d", pages, workers, mutators, why)
					}
					continue
				}
				g := sample.Gc(api.PhaseIdle, sample.Off(sample.Heap(pages, nil), workers))
				want := sample.World(sample.Runtime(g, slices.Repeat([]api.Mutator{sample.Mutator()}, mutators)...))
				if !same(got, want) || why != api.OK || world.Check(got) != api.OK {
					t.Errorf("New of %d, %d, %d: error %d", pages, workers, mutators, why)
				}
			}
		}
	}
}

// TestCheck: a world is valid if its runtime is, and no more was run than is remembered, whatever that was.
func TestCheck(t *testing.T) {
	phases := map[api.Phase]int{}
	for i, w := range worlds(400) {
		if why := world.Check(w); why != api.OK {
			t.Errorf("world %d: error %d", i, why)
		}
		phases[w.Runtime.Gc.Phase]++
	}
	for i := range api.PhaseCount {
		if phases[i] < 20 {
			t.Error(phases)
		}
	}
	for i, w := range sample.BadWorlds() {
		if why := world.Check(w); why != api.ErrForm {
			t.Errorf("invalid world %d: error %d", i, why)
		}
	}
	for _, n := range []int{0, 1, 255, 256, 257, 512} {
		want := api.OK
		if n > 256 {
			want = api.ErrForm
		}
		for _, x := range []api.Ran{{}, sample.SomeRan(1), sample.SomeRan(3), {Item: api.Item{Kind: 255, Addr: math.MaxUint64}, Fields: make([]uint64, 5000)}} {
			if why := world.Check(sample.World(sample.ThreeLists(), slices.Repeat([]api.Ran{x}, n)...)); why != want {
				t.Errorf("%d that were run: error %d", n, why)
			}
		}
	}
}

func TestLive(t *testing.T) {
	sum, fewer := 0, 0
	for i, w := range worlds(300) {
		want := live(w)
		if got, why := world.Live(w); !slices.Equal(got, want) || why != api.OK {
			t.Errorf("world %d: %d, error %d; want %d", i, got, why, want)
		}
		sum += len(want)
		if len(want) < len(sample.Addrs(w.Runtime.Gc.Marker.Heap)) {
			fewer++
		}
	}
	if sum < 500 || fewer < 50 {
		t.Error(sum, fewer)
	}
}

// TestLiveRoots: what registers, and finalizers that wait, lead to is live, by fields and by the table; what only specials, weak handles and numbers tell of is not.
func TestLiveRoots(t *testing.T) {
	w := sample.World(sample.Runtime(sample.SixLists(), sample.Mutator()))
	w.Runtime.Gc.Specials = append(w.Runtime.Gc.Specials[:0:0], sample.Final(26, 1))
	for i, x := range []struct {
		regs  []api.Reg
		items []api.Item
		want  []uint64
	}{
		{nil, nil, nil},
		{[]api.Reg{sample.Num(16), sample.Ref(0)}, []api.Item{sample.CleanItem(16)}, nil},
		{[]api.Reg{sample.Ref(16)}, nil, []uint64{16, 18, 20}},
		{[]api.Reg{sample.Num(16), sample.Ref(18), sample.Num(0), sample.Ref(18)}, nil, []uint64{18, 20}},
		{nil, []api.Item{sample.CleanItem(1), sample.FinalItem(22, 1)}, []uint64{22, 24, 26}},
		{[]api.Reg{sample.Num(0), sample.Num(0), sample.Num(0), sample.Ref(20)}, []api.Item{sample.FinalItem(24, 1), sample.FinalItem(24, 3)}, []uint64{20, 24, 26}},
	} {
		w.Runtime.Mutators = []api.Mutator{sample.Mutator(), sample.Mutator(x.regs...)}
		w.Runtime.Gc.Queue = x.items
		if got, why := world.Live(w); !slices.Equal(got, x.want) || why != api.OK {
			t.Errorf("case %d: %d, error %d; want %d", i, got, why, x.want)
		}
	}
}

// 20.2

func TestDo(t *testing.T) {
	p := sample.Picks(153)
	type kind struct {
		mutator bool
		kind    uint8
	}
	counts := map[kind]map[bool]int{}
	for i, w := range worlds(120) {
		for _, pick := range picks(&p) {
			want, wanted, no := done(w, pick)
			got, heard, why := world.Do(w, pick)
			if !same(got, want) || !sameHeard(heard, wanted) || why != no {
				t.Fatalf("world %d, %v: %v, error %d; want %v, %d", i, pick, heard, why, wanted, no)
			}
			k := kind{pick.Mutator, uint8(pick.Op.Kind)}
			if !pick.Mutator {
				k.kind = uint8(pick.Task.Kind)
			}
			if counts[k] == nil {
				counts[k] = map[bool]int{}
			}
			counts[k][why == api.OK]++
		}
	}
	for k, n := range counts {
		right := k.mutator && slices.Contains(sample.OpKinds(), api.OpKind(k.kind)) || !k.mutator && k.kind > 0 && k.kind < uint8(api.TaskCount)
		if right && n[true] == 0 || !right && n[true] > 0 || n[false] < 100 && k.mutator {
			t.Error(k, n)
		}
	}
}

// TestDoErrors: the error is that of the called function, and only what is picked is asked for.
func TestDoErrors(t *testing.T) {
	w := sample.World(sample.ThreeLists(), sample.SomeRans(4)...)
	start := api.Task{Kind: api.TaskStart}
	for _, x := range []struct {
		pick api.Pick
		want api.Errno
	}{
		{api.Pick{}, api.ErrTask},
		{api.Pick{Task: api.Task{Kind: api.TaskCount}}, api.ErrTask},
		{api.Pick{Task: api.Task{Kind: 255, Who: math.MinInt}}, api.ErrTask},
		{api.Pick{Task: api.Task{Kind: api.TaskScan, Who: math.MaxInt}}, api.ErrTask},
		{api.Pick{Task: api.Task{Kind: api.TaskScan}}, api.ErrState},
		{api.Pick{Task: api.Task{Kind: api.TaskRun}}, api.ErrNone},
		{api.Pick{Mutator: true, Task: start}, api.ErrForm},
		{api.Pick{Mutator: true, Who: 2, Op: api.Op{Kind: api.OpNil}, Task: start}, api.ErrTask},
		{api.Pick{Mutator: true, Who: math.MinInt, Op: api.Op{Kind: api.OpNil}}, api.ErrTask},
		{api.Pick{Mutator: true, Op: api.Op{Kind: 255}}, api.ErrForm},
		{api.Pick{Mutator: true, Op: api.Op{Kind: api.OpNil, A: math.MaxInt}}, api.ErrRange},
		{api.Pick{Mutator: true, Op: api.Op{Kind: api.OpLoad, B: 2, Field: math.MinInt}}, api.ErrField},
		{api.Pick{Mutator: true, Who: 1, Op: api.Op{Kind: api.OpLoad}}, api.ErrType},
		{api.Pick{Mutator: true, Op: api.Op{Kind: api.OpNew, Shape: api.Shape{N: math.MaxInt}}}, api.ErrForm},
		{api.Pick{Mutator: true, Op: api.Op{Kind: api.OpGc, A: -1, B: -1}, Task: api.Task{Kind: 255}}, api.OK},
		{api.Pick{Who: 99, Op: api.Op{Kind: 255, A: 99}, Task: start}, api.OK},
	} {
		got, heard, why := world.Do(w, x.pick)
		if why != x.want || !sameHeard(heard, api.Heard{}) || why != api.OK && !same(got, w) || why == api.OK && got.Runtime.Gc.Phase != api.PhaseMark {
			t.Errorf("%v: %v, error %d, want %d", x.pick, heard, why, x.want)
		}
	}
}

// TestRan: what TaskRun runs is heard, and appended to what was run; of that the last 256 are remembered.
func TestRan(t *testing.T) {
	for _, n := range []int{0, 1, 254, 255, 256} {
		w := sample.World(sample.BusyRuntime(), sample.SomeRans(n)...)
		want := sample.CopyWorld(w).Ran
		for i, item := range w.Runtime.Gc.Queue {
			ran := api.Ran{Item: item}
			if item.Kind == api.SpecialFinal {
				ran.Fields = []uint64{[]uint64{24, 0, 0, 0}[i]}
			}
			got, heard, why := world.Do(w, api.Pick{Task: api.Task{Kind: api.TaskRun}})
			want = append(want, ran)
			want = want[max(0, len(want)-256):]
			if !sameHeard(heard, api.Heard{Ran: ran}) || !slices.EqualFunc(got.Ran, want, sample.SameRan) || why != api.OK {
				t.Errorf("%d were run, item %d: %v, error %d", n, i, heard, why)
			}
			w = got
		}
		got, heard, why := world.Do(w, api.Pick{Task: api.Task{Kind: api.TaskRun}})
		if !same(got, w) || !sameHeard(heard, api.Heard{}) || why != api.ErrNone {
			t.Errorf("%d were run, and nothing waits: %v, error %d", n, heard, why)
		}
	}
}

// 20.3

func TestFair(t *testing.T) {
	p := sample.Picks(154)
	ran := 0
	for i, w := range worlds(150) {
		rounds := p.Below(9)
		if i%10 == 0 {
			rounds = 64 - rounds
		}
		want, steps := fair(w, rounds)
		got, n, why := world.Fair(w, rounds)
		if !same(got, want) || n != steps || why != api.OK {
			t.Errorf("world %d, %d rounds: %d, error %d; want %d", i, rounds, n, why, steps)
		}
		if len(w.Runtime.Gc.Queue) > 0 && rounds > 0 {
			ran++
		}
	}
	if ran < 50 {
		t.Error(ran)
	}
}

func TestFairRounds(t *testing.T) {
	w, _ := world.New(2, 3, 2)
	for _, rounds := range append(sample.Ints(), -2, -1, 65, 66, 127, 128, 256, 1<<32, 1<<32+1, 1<<60+64) {
		if got, n, why := world.Fair(w, rounds); !same(got, w) || n != 0 || why != api.ErrRange {
			t.Error(rounds, n, why)
		}
	}
	// In the first of two rounds: the start, two scans, and a step of ending the marking; in the second: the other such step, and one of sweeping.
	for rounds, want := range []int{0, 4, 6, 10, 12} {
		if _, n, why := world.Fair(w, rounds); n != want || why != api.OK {
			t.Error(rounds, n, why)
		}
	}
	if got, n, why := world.Fair(w, 64); !same(got, w) || n != 192 || why != api.OK {
		t.Error(n, why)
	}
}

// list is a world with the list of the examples of chapter 20: visit is called between the operations.
func list(t *testing.T, visit func(w api.World) api.World) api.World {
	t.Helper()
	w, why := world.New(8, 2, 1)
	if why != api.OK {
		t.Fatal(why)
	}
	for i := range uint64(10) {
		for _, op := range []api.Op{
			{Kind: api.OpNew, A: 1, Shape: api.Shape{N: 2, Mask: 1}},
			{Kind: api.OpConst, A: 2, W: i},
			{Kind: api.OpStore, A: 1, B: 2, Field: 1},
			{Kind: api.OpStore, A: 1, B: 0, Field: 0},
			{Kind: api.OpMove, A: 0, B: 1},
			{Kind: api.OpNil, A: 1},
		} {
			if i == 0 && op.Kind == api.OpStore && op.Field == 0 {
				// There is none before it.
				op = api.Op{Kind: api.OpNil, A: 0}
			}
			w, _ = operate(t, visit(w), op)
		}
	}
	return visit(w)
}

// operate lets mutator 0 do something that is not refused.
func operate(t *testing.T, w api.World, op api.Op) (api.World, api.Reg) {
	t.Helper()
	w, heard, why := world.Do(w, api.Pick{Mutator: true, Op: op})
	if why != api.OK || !sample.SameRan(heard.Ran, api.Ran{}) {
		t.Fatalf("%v: %v, error %d", op, heard, why)
	}
	return w, heard.Reg
}

// someRounds lets Fair execute 0 to 3 rounds.
func someRounds(t *testing.T, p *sample.Picks) func(w api.World) api.World {
	return func(w api.World) api.World {
		w, _, why := world.Fair(w, p.Below(4))
		if why != api.OK {
			t.Fatal(why)
		}
		return w
	}
}

// TestChapter: the chapter's own examples.
func TestChapter(t *testing.T) {
	if got, why := world.New(8, 5, 1); !same(got, api.World{}) || why != api.ErrRange {
		t.Error("New:", why)
	}
	for seed := range sample.Picks(20) {
		p := seed
		between := someRounds(t, &p)
		w := list(t, between)
		if l, why := world.Live(w); len(l) != 10 || why != api.OK {
			t.Error("Live:", l, why)
		}
		if got, _, why := world.Do(w, api.Pick{Task: api.Task{Kind: api.TaskRun}}); !same(got, w) || why != api.ErrNone {
			t.Error("TaskRun:", why)
		}
		w, _ = operate(t, w, api.Op{Kind: api.OpMove, A: 1, B: 0})
		for i := range uint64(10) {
			var reg api.Reg
			if w, reg = operate(t, between(w), api.Op{Kind: api.OpLoad, A: 3, B: 1, Field: 1}); reg != sample.Num(9-i) {
				t.Error("the numbers:", i, reg)
			}
			w, _ = operate(t, between(w), api.Op{Kind: api.OpLoad, A: 1, B: 1, Field: 0})
		}
		w, _ = operate(t, between(w), api.Op{Kind: api.OpClean, A: 0, W: 6})
		w, _ = operate(t, between(w), api.Op{Kind: api.OpFinal, A: 0, W: 8})
		addr := w.Runtime.Mutators[0].Regs[0].W
		fields := find(t, w, addr).Fields
		w, _ = operate(t, between(w), api.Op{Kind: api.OpNil, A: 0})
		for range 20 {
			var why api.Errno
			if w, _, why = world.Fair(w, 20); why != api.OK {
				t.Fatal("Fair:", why)
			}
		}
		want := []api.Ran{{Item: sample.FinalItem(addr, 8), Fields: fields}, {Item: sample.CleanItem(6)}}
		if !slices.EqualFunc(w.Ran, want, sample.SameRan) {
			t.Error("what was run:", w.Ran)
		}
		if l := sample.Addrs(w.Runtime.Gc.Marker.Heap); len(l) != 0 || w.Runtime.Gc.Marker.Heap.Pages.Used.W[0] != 1 {
			t.Error("what is left:", l, w.Runtime.Gc.Marker.Heap.Pages)
		}
	}
}

// find is the object at an address.
func find(t *testing.T, w api.World, addr uint64) sample.Object {
	t.Helper()
	for _, o := range sample.Objects(w.Runtime.Gc.Marker.Heap) {
		if o.Addr == addr {
			return o
		}
	}
	t.Fatal(addr, "is no object")
	return sample.Object{}
}

// TestAnyPicks: the example of the whole chapter: a list to which a register refers exists after any picks; when no register refers to it any more, it is freed within some rounds.
func TestAnyPicks(t *testing.T) {
	p := sample.Picks(155)
	for range 10 {
		w := list(t, someRounds(t, &p))
		want, _ := world.Live(w)
		before := sample.Objects(w.Runtime.Gc.Marker.Heap)
		for range 300 {
			pick := sample.SomePick(&p, w.Runtime, 0)
			if pick.Mutator {
				// The register that refers to the list is left alone, and so is the list.
				if pick.Op.A == 0 || pick.Op.Kind == api.OpStore {
					continue
				}
			}
			w, _, _ = world.Do(w, pick)
			l := sample.Objects(w.Runtime.Gc.Marker.Heap)
			for _, o := range before {
				if slices.Contains(want, o.Addr) && !slices.ContainsFunc(l, func(x sample.Object) bool { return x.Addr == o.Addr && slices.Equal(x.Fields, o.Fields) }) {
					t.Fatalf("after %v, %v is lost", pick, o)
				}
			}
		}
		for reg := range 4 {
			w, _ = operate(t, w, api.Op{Kind: api.OpNil, A: reg})
		}
		w, _, _ = world.Fair(w, 64)
		w, _, _ = world.Fair(w, 64)
		w, _, _ = world.Fair(w, 64)
		if l := sample.Addrs(w.Runtime.Gc.Marker.Heap); len(l) > 0 {
			t.Error(l)
		}
	}
}
