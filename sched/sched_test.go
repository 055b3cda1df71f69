package sched_test

import (
	"math"
	"slices"
	"testing"

	"besom/api"
	"besom/barrier"
	"besom/queue"
	"besom/reach"
	"besom/sample"
	"besom/sched"
	"besom/special"
)

// kinds are the kinds of tasks, and some that are none.
func kinds() []api.TaskKind {
	return []api.TaskKind{api.TaskNone, api.TaskStart, api.TaskScan, api.TaskWork, api.TaskFinish, api.TaskSweep, api.TaskRun, api.TaskCount, 8, 127, 128, 129, 130, 131, 132, 133, 134, 255}
}

// tasks are tasks of all kinds, for those who are there and for others.
func tasks() []api.Task {
	var out []api.Task
	for _, kind := range kinds() {
		for _, who := range append(sample.Ints(), 0, 1, 2, 3, 4, 5) {
			out = append(out, api.Task{Kind: kind, Who: who})
		}
	}
	return out
}

// TestInvalidComesFirst: what is not valid comes before all other errors, and there is no result.
func TestInvalidComesFirst(t *testing.T) {
	for i, r := range sample.BadRuntimes() {
		for _, kind := range kinds() {
			task := api.Task{Kind: kind, Who: i%9 - 2}
			if got, ran, why := sched.Do(r, task); !same(got, api.Runtime{}) || !sample.SameRan(ran, api.Ran{}) || why != api.ErrForm {
				t.Errorf("Do of invalid runtime %d, %v: error %d", i, task, why)
			}
		}
		if l, why := sched.Tasks(r); len(l) != 0 || why != api.ErrForm {
			t.Errorf("Tasks of invalid runtime %d: %v, error %d", i, l, why)
		}
		if got, n, why := sched.Cycle(r); !same(got, api.Runtime{}) || n != 0 || why != api.ErrForm {
			t.Errorf("Cycle of invalid runtime %d: %d, error %d", i, n, why)
		}
		if l, why := sched.Roots(r); len(l) != 0 || why != api.ErrForm {
			t.Errorf("Roots of invalid runtime %d: %d, error %d", i, l, why)
		}
	}
}

// 18.1

func TestMake(t *testing.T) {
	counts := append(sample.Ints(), -2, -1, 0, 1, 2, 3, 4, 5, 6, 1023, 1024, 1025, 1<<32+1, 1<<60+1)
	for _, pages := range counts {
		for _, workers := range counts {
			for _, mutators := range counts {
				got, why := sched.Make(pages, workers, mutators)
				if pages < 1 || pages > 1024 || min(workers, mutators) < 1 || max(workers, mutators) > 4 {
					if !same(got, api.Runtime{}) || why != api.ErrRange {
						t.Errorf("Make of %d, %d, %d: error %d", pages, workers, mutators, why)
					}
					continue
				}
				g := sample.Gc(api.PhaseIdle, sample.Off(sample.Heap(pages, nil), workers))
				want := sample.Runtime(g, slices.Repeat([]api.Mutator{sample.Mutator()}, mutators)...)
				if !same(got, want) || why != api.OK || sched.Check(got) != api.OK {
					t.Errorf("Make of %d, %d, %d: error %d", pages, workers, mutators, why)
				}
			}
		}
	}
}

func TestCheck(t *testing.T) {
	phases := map[api.Phase]int{}
	for i, r := range append(runtimes(400), sample.Runtimes()...) {
		if why := sched.Check(r); why != api.OK || !valid(r) {
			t.Errorf("runtime %d: error %d", i, why)
		}
		phases[r.Gc.Phase]++
	}
	for i := range api.PhaseCount {
		if phases[i] < 40 {
			t.Error(phases)
		}
	}
	for i, r := range sample.BadRuntimes() {
		if why := sched.Check(r); why != api.ErrForm || valid(r) {
			t.Errorf("invalid runtime %d: error %d", i, why)
		}
	}
}

// TestCheckChanged: of runtimes in which one thing was changed, those are valid that the chapter's words call so.
func TestCheckChanged(t *testing.T) {
	counts := map[bool]int{}
	p := sample.Picks(112)
	for i, r := range runtimes(400) {
		for k, r := range changed(&p, r) {
			want := api.OK
			if !valid(r) {
				want = api.ErrForm
			}
			if why := sched.Check(r); why != want {
				t.Errorf("runtime %d, change %d: error %d, want %d", i, k, why, want)
			}
			counts[want == api.OK]++
		}
	}
	if counts[true] < 1000 || counts[false] < 1000 {
		t.Error(counts)
	}
}

// changed are copies of a runtime in each of which one thing is other than it was.
func changed(p *sample.Picks, r api.Runtime) []api.Runtime {
	addrs := append(sample.Addrs(r.Gc.Marker.Heap), 0, 17, 1<<32+16)
	one := func() uint64 { return addrs[p.Below(len(addrs))] }
	var out []api.Runtime
	change := func(how func(r *api.Runtime)) {
		r := sample.CopyRuntime(r)
		how(&r)
		out = append(out, r)
	}
	change(func(r *api.Runtime) { r.Gc.Phase = api.Phase(p.Below(5)) })
	change(func(r *api.Runtime) { r.Gc.Marker.Heap = sample.Marks(r.Gc.Marker.Heap) })
	change(func(r *api.Runtime) { r.Gc.Queue = append(r.Gc.Queue, sample.FinalItem(one(), 1)) })
	change(func(r *api.Runtime) { r.Mutators = r.Mutators[1:] })
	change(func(r *api.Runtime) { r.Mutators = append(r.Mutators, r.Mutators[0]) })
	change(func(r *api.Runtime) { r.Mutators = append(r.Mutators, sample.Mutator(sample.Ref(one()))) })
	for i := range r.Mutators {
		change(func(r *api.Runtime) { r.Mutators[i].Scanned = !r.Mutators[i].Scanned })
		change(func(r *api.Runtime) { r.Mutators[i].Regs[p.Below(4)].Ref = true })
		change(func(r *api.Runtime) { r.Mutators[i].Regs[p.Below(4)] = sample.Ref(one()) })
		change(func(r *api.Runtime) { r.Mutators[i].Regs[p.Below(4)] = sample.Num(p.Word()) })
		change(func(r *api.Runtime) { r.Mutators[i].Regs = r.Mutators[i].Regs[:p.Below(5)] })
	}
	return out
}

// TestCheckFreed: a register that refers to an object that was freed makes a runtime invalid.
func TestCheckFreed(t *testing.T) {
	r := sample.Runtime(sample.ThreeLarge(), sample.Mutator())
	for range 3 {
		r, _, _ = sched.Do(r, api.Task{Kind: api.TaskSweep})
	}
	if why := sched.Check(r); why != api.OK || r.Gc.Phase != api.PhaseIdle {
		t.Error(why, r.Gc.Phase)
	}
	r.Mutators[0].Regs[3] = sample.Ref(48)
	if why := sched.Check(r); why != api.ErrForm {
		t.Error(why)
	}
}

func TestRoots(t *testing.T) {
	sum := 0
	for i, r := range append(runtimes(400), sample.Runtimes()...) {
		var want []uint64
		for _, m := range r.Mutators {
			want = append(want, sample.Refs(m)...)
		}
		if l, why := sched.Roots(r); !slices.Equal(l, want) || why != api.OK {
			t.Errorf("Roots of runtime %d: %d, error %d; want %d", i, l, why, want)
		}
		sum += len(want)
	}
	if sum < 500 {
		t.Error(sum)
	}
	if l, why := sched.Roots(sample.BusyRuntime()); !slices.Equal(l, []uint64{26, 20, 22, 16, 20, 20, 18, 16}) || why != api.OK {
		t.Error(l, why)
	}
}

// 18.2

func TestDo(t *testing.T) {
	counts := map[api.TaskKind]map[api.Errno]int{}
	l := tasks()
	for i, r := range append(runtimes(150), sample.SmallRuntimes()...) {
		for _, task := range l {
			want, wanted, no := done(r, task)
			got, ran, why := sched.Do(r, task)
			if !same(got, want) || !sample.SameRan(ran, wanted) || why != no {
				t.Fatalf("Do of runtime %d, %v: %v, error %d; want %v, %d", i, task, ran, why, wanted, no)
			}
			if counts[task.Kind] == nil {
				counts[task.Kind] = map[api.Errno]int{}
			}
			counts[task.Kind][no]++
		}
	}
	for kind, errors := range map[api.TaskKind][]api.Errno{
		api.TaskNone: {api.ErrTask}, api.TaskCount: {api.ErrTask}, 255: {api.ErrTask},
		api.TaskStart: {api.OK, api.ErrState}, api.TaskScan: {api.OK, api.ErrTask, api.ErrState},
		api.TaskWork: {api.OK, api.ErrTask, api.ErrState, api.ErrNone}, api.TaskFinish: {api.OK, api.ErrState, api.ErrFull},
		api.TaskSweep: {api.OK, api.ErrState}, api.TaskRun: {api.OK, api.ErrNone},
	} {
		for _, why := range errors {
			if counts[kind][why] < 10 {
				t.Error(kind, why, counts[kind])
			}
		}
		if len(counts[kind]) != len(errors) {
			t.Error(kind, counts[kind])
		}
	}
}

// TestDoLarge: the tasks are executed in the greatest heaps, too.
func TestDoLarge(t *testing.T) {
	for i, r := range sample.Runtimes() {
		if len(r.Gc.Marker.Heap.Spans) <= 100 {
			continue
		}
		for _, kind := range kinds()[:8] {
			want, wanted, no := done(r, api.Task{Kind: kind})
			if got, ran, why := sched.Do(r, api.Task{Kind: kind}); !same(got, want) || !sample.SameRan(ran, wanted) || why != no {
				t.Errorf("Do of runtime %d, %d: %v, error %d; want %v, %d", i, kind, ran, why, wanted, no)
			}
		}
	}
}

// TestScan: what the registers of that mutator refer to is shaded with worker 0, in order and each once; numbers are not.
func TestScan(t *testing.T) {
	for _, x := range []struct {
		who           int
		marked, queue []uint64
	}{
		{0, []uint64{16, 20, 22, 24, 26}, []uint64{16, 26, 20}},
		{2, []uint64{16, 18, 20, 22, 24}, []uint64{16, 20, 18}},
	} {
		want := sample.BusyRuntime()
		want.Gc.Marker = sample.On(sample.Marks(want.Gc.Marker.Heap, x.marked...), []api.Hand{{}, {Obj: 24, Field: 1}}, x.queue)
		want.Mutators[x.who].Scanned = true
		got, ran, why := sched.Do(sample.BusyRuntime(), api.Task{Kind: api.TaskScan, Who: x.who})
		if !same(got, want) || !sample.SameRan(ran, api.Ran{}) || why != api.OK {
			t.Error(x.who, got.Gc.Marker.Grey, ran, why)
		}
	}
}

// TestScanErrors: that there is no such mutator comes before that it is not to be scanned now.
func TestScanErrors(t *testing.T) {
	late := sample.Runtime(sample.SixMarked(api.PhaseLate, 16, 20, 22, 24), sample.Scanned(sample.Mutator()), sample.Scanned(sample.Mutator()))
	idle := sample.ThreeLists()
	swept := sample.Runtime(sample.ThreeLarge(), sample.Mutator(), sample.Mutator())
	for _, r := range []api.Runtime{idle, sample.BusyRuntime(), late, swept} {
		for _, who := range append(sample.Ints(), -2, -1, 3, 4, 5) {
			if got, _, why := sched.Do(r, api.Task{Kind: api.TaskScan, Who: who}); !same(got, r) || why != api.ErrTask {
				t.Errorf("phase %d, mutator %d: error %d", r.Gc.Phase, who, why)
			}
		}
		if got, _, why := sched.Do(r, api.Task{Kind: api.TaskScan, Who: 1}); !same(got, r) || why != api.ErrState {
			t.Errorf("phase %d: error %d", r.Gc.Phase, why)
		}
	}
}

// TestFinish: in PhaseMark, each mutator has to be Scanned; once the phase is PhaseSweep, none is any more.
func TestFinish(t *testing.T) {
	g := sample.SixMarked(api.PhaseMark, 16)
	g.Table, g.Specials = api.Ephem{}, nil
	one := sample.Scanned(sample.Mutator(sample.Ref(16)))
	for _, l := range [][]api.Mutator{
		{sample.Mutator()}, {sample.Mutator(), one}, {one, sample.Mutator()}, {one, one, sample.Mutator(sample.Ref(16)), one}, {one, one, one, sample.Mutator()},
	} {
		r := sample.Runtime(g, l...)
		if got, _, why := sched.Do(r, api.Task{Kind: api.TaskFinish}); !same(got, r) || why != api.ErrState {
			t.Errorf("Finish of %v: error %d", l, why)
		}
	}
	for n := range 4 {
		r := sample.Runtime(g, slices.Repeat([]api.Mutator{one}, n+1)...)
		late, _, why := sched.Do(r, api.Task{Kind: api.TaskFinish})
		if late.Gc.Phase != api.PhaseLate || why != api.OK || !same(sample.Runtime(late.Gc, r.Mutators...), late) {
			t.Error(n, late.Gc.Phase, late.Mutators, why)
		}
		swept, _, why := sched.Do(late, api.Task{Kind: api.TaskFinish})
		scanned := slices.ContainsFunc(swept.Mutators, func(m api.Mutator) bool { return m.Scanned })
		if swept.Gc.Phase != api.PhaseSweep || why != api.OK || scanned || !slices.Equal(swept.Mutators[n].Regs, one.Regs) {
			t.Error(n, swept.Gc.Phase, swept.Mutators, why)
		}
	}
}

// TestFinishFull: a queue without room is an error, and nothing changes.
func TestFinishFull(t *testing.T) {
	g := sample.SixMarked(api.PhaseMark, 16)
	g.Table, g.Queue = api.Ephem{}, slices.Repeat([]api.Item{sample.CleanItem(1)}, 256)
	r := sample.Runtime(g, sample.Scanned(sample.Mutator(sample.Ref(16))))
	if got, _, why := sched.Do(r, api.Task{Kind: api.TaskFinish}); !same(got, r) || why != api.ErrFull {
		t.Error(why)
	}
	r.Gc.Phase, r.Gc.Specials, r.Gc.Weak = api.PhaseLate, []api.Special{sample.Cleanup(20, 1)}, nil
	if got, _, why := sched.Do(r, api.Task{Kind: api.TaskFinish}); !same(got, r) || why != api.ErrFull {
		t.Error(why)
	}
}

// TestRun: a finalizer whose Tag is odd gives its object to the first register of the first mutator, in each phase; one whose Tag is even does not, nor does a cleanup.
func TestRun(t *testing.T) {
	swept := sample.SixLists()
	swept.Phase = api.PhaseSweep
	for _, g := range []api.Gc{sample.SixLists(), sample.SixMarked(api.PhaseMark, 16, 22, 24), sample.SixMarked(api.PhaseLate, 16, 20, 22, 24), swept} {
		m, other := sample.Mutator(sample.Num(9), sample.Ref(16), sample.Ref(0)), sample.Mutator(sample.Ref(16))
		m.Scanned, other.Scanned = g.Phase == api.PhaseLate, g.Marker.On
		for _, tag := range []uint64{0, 1, 2, 7, 8, 1 << 32, 1<<32 + 1, 1 << 63, math.MaxUint64 - 1, math.MaxUint64} {
			for _, item := range []api.Item{sample.FinalItem(22, tag), sample.CleanItem(tag)} {
				r := sample.Runtime(g, m, other)
				r.Gc.Queue = []api.Item{item, sample.CleanItem(4)}
				want, wanted := sample.CopyRuntime(r), api.Ran{Item: item}
				want.Gc.Queue = []api.Item{sample.CleanItem(4)}
				if item.Addr > 0 {
					wanted.Fields = []uint64{24}
					if tag%2 == 1 {
						want.Mutators[0].Regs[0] = sample.Ref(22)
					}
				}
				got, ran, why := sched.Do(r, api.Task{Kind: api.TaskRun})
				if !same(got, want) || !sample.SameRan(ran, wanted) || why != api.OK || !valid(got) {
					t.Errorf("phase %d, %v: %v, %v, error %d", g.Phase, item, got.Mutators, ran, why)
				}
			}
		}
		r := sample.Runtime(g, m, other)
		if got, ran, why := sched.Do(r, api.Task{Kind: api.TaskRun}); !same(got, r) || !sample.SameRan(ran, api.Ran{}) || why != api.ErrNone {
			t.Errorf("phase %d, nothing waits: %v, error %d", g.Phase, ran, why)
		}
	}
}

// 18.3

func TestTasks(t *testing.T) {
	counts := map[api.TaskKind]int{}
	for i, r := range append(runtimes(400), sample.SmallRuntimes()...) {
		want := possible(r)
		if l, why := sched.Tasks(r); !slices.Equal(l, want) || why != api.OK {
			t.Errorf("Tasks of runtime %d: %v, error %d; want %v", i, l, why, want)
		}
		for _, task := range want {
			counts[task.Kind]++
		}
	}
	for kind := api.TaskStart; kind < api.TaskCount; kind++ {
		if counts[kind] < 30 {
			t.Error(kind, counts[kind])
		}
	}
}

// TestTasksOrder: of several tasks, those of mutators come before those of workers, and what is run comes last. A hand is its worker's own, while queues are everybody's.
func TestTasksOrder(t *testing.T) {
	scan := func(who int) api.Task { return api.Task{Kind: api.TaskScan, Who: who} }
	work := func(who int) api.Task { return api.Task{Kind: api.TaskWork, Who: who} }
	r := sample.BusyRuntime()
	for i, x := range []struct {
		tasks []api.Task
		next  api.Task
	}{
		{[]api.Task{scan(0), scan(2), work(0), work(1), {Kind: api.TaskRun}}, work(0)},
		{[]api.Task{scan(0), scan(2), work(0), work(1), {Kind: api.TaskRun}}, work(0)},
		{[]api.Task{scan(0), scan(2), work(0), work(1), {Kind: api.TaskRun}}, work(0)},
		{[]api.Task{scan(0), scan(2), work(1), {Kind: api.TaskRun}}, scan(2)},
		{[]api.Task{scan(0), work(0), work(1), {Kind: api.TaskRun}}, scan(0)},
	} {
		l, why := sched.Tasks(r)
		if !slices.Equal(l, x.tasks) || why != api.OK {
			t.Errorf("step %d: %v, error %d; want %v", i, l, why, x.tasks)
		}
		r, _, _ = sched.Do(r, x.next)
	}
}

// TestTasksNone: where a full queue stands in the way of the end of marking, there may be nothing to do but to run what waits.
func TestTasksNone(t *testing.T) {
	g := sample.SixMarked(api.PhaseLate, 16)
	g.Table, g.Specials, g.Weak = api.Ephem{}, []api.Special{sample.Cleanup(20, 1)}, nil
	g.Queue = slices.Repeat([]api.Item{sample.CleanItem(1)}, 256)
	r := sample.Runtime(g, sample.Scanned(sample.Mutator()))
	if l, why := sched.Tasks(r); !slices.Equal(l, []api.Task{{Kind: api.TaskRun}}) || why != api.OK {
		t.Error(l, why)
	}
	r.Gc.Queue = r.Gc.Queue[1:]
	if l, why := sched.Tasks(r); !slices.Equal(l, []api.Task{{Kind: api.TaskFinish}, {Kind: api.TaskRun}}) || why != api.OK {
		t.Error(l, why)
	}
}

func TestCycle(t *testing.T) {
	p := sample.Picks(113)
	counts := map[api.Errno]int{}
	for i, r := range slices.Concat(runtimes(200), idles(&p, 100), full(&p, 150), sample.SmallRuntimes()) {
		want, steps, no := cycled(r)
		got, n, why := sched.Cycle(r)
		if !same(got, want) || n != steps || why != no {
			t.Errorf("Cycle of runtime %d: %d, error %d; want %d, %d", i, n, why, steps, no)
		}
		counts[no]++
	}
	if counts[api.OK] < 150 || counts[api.ErrState] < 100 || counts[api.ErrFull] < 10 {
		t.Error(counts)
	}
}

// TestCycleSteps: of a runtime without objects, a collection has the start, a scan for each mutator, two steps of ending the marking, and one of sweeping. An object that is referred to adds two.
func TestCycleSteps(t *testing.T) {
	for mutators := 1; mutators <= 4; mutators++ {
		r, _ := sched.Make(4, 2, mutators)
		if got, n, why := sched.Cycle(r); !same(got, r) || n != 4+mutators || why != api.OK {
			t.Error(mutators, n, why)
		}
		m, addr, _ := barrier.New(r.Gc.Marker, api.Shape{N: 5})
		r.Gc.Marker, r.Mutators[mutators-1].Regs[3] = m, sample.Ref(addr)
		want := sample.CopyRuntime(r)
		want.Gc.Marker.Heap = sample.Marks(m.Heap, addr)
		if got, n, why := sched.Cycle(r); !same(got, want) || n != 6+mutators || why != api.OK {
			t.Error(mutators, n, why)
		}
	}
}

// TestCycleErrors: in each other phase Cycle is refused, and where items have no room, nothing changes: neither for finalizers, nor for cleanups.
func TestCycleErrors(t *testing.T) {
	late := sample.Runtime(sample.SixMarked(api.PhaseLate, 16, 20, 22, 24), sample.Scanned(sample.Mutator()))
	for _, r := range []api.Runtime{sample.BusyRuntime(), late, sample.Runtime(sample.ThreeLarge(), sample.Mutator())} {
		r.Gc.Queue = slices.Repeat([]api.Item{sample.CleanItem(1)}, 256)
		if got, n, why := sched.Cycle(r); !same(got, r) || n != 0 || why != api.ErrState {
			t.Errorf("Cycle in phase %d: %d, error %d", r.Gc.Phase, n, why)
		}
	}
	for _, s := range []api.Special{sample.Final(18, 1), sample.Cleanup(18, 1)} {
		for _, items := range []int{255, 256} {
			r := sample.ThreeLists()
			r.Gc.Specials, r.Gc.Queue = []api.Special{s}, slices.Repeat([]api.Item{sample.CleanItem(1)}, items)
			got, n, why := sched.Cycle(r)
			if items == 256 && (!same(got, r) || n != 0 || why != api.ErrFull) || items == 255 && (n < 5 || why != api.OK || len(got.Gc.Queue) != 256) {
				t.Errorf("Cycle with %d items: %d, error %d", items, n, why)
			}
		}
	}
}

// TestCycleLarge: the greatest heaps are collected, from one object to which all others are linked.
func TestCycleLarge(t *testing.T) {
	for i, h := range []api.Heap{sample.FullPages(), sample.FullSpans()} {
		objects := sample.Objects(h)
		fields := 0
		for _, o := range objects {
			fields += o.N
		}
		g := sample.Gc(api.PhaseIdle, sample.Off(h, 4))
		r := sample.Runtime(g, sample.Mutator(), sample.Mutator(sample.Ref(objects[7].Addr)))
		// Two steps of ending the marking, and one for each span, are behind these.
		want := 1 + 2 + 2*len(objects) + fields + 2 + 256
		got, n, why := sched.Cycle(r)
		if n != want || why != api.OK || got.Gc.Phase != api.PhaseIdle || len(sample.Objects(got.Gc.Marker.Heap)) != len(objects) {
			t.Errorf("heap %d: %d, error %d; want %d", i, n, why, want)
		}
		r.Mutators[1] = sample.Mutator()
		got, n, why = sched.Cycle(r)
		if n != 1+2+2+256 || why != api.OK || got.Gc.Phase != api.PhaseIdle || len(got.Gc.Marker.Heap.Spans) != 0 {
			t.Errorf("heap %d, without roots: %d, error %d", i, n, why)
		}
	}
}

// chapter is the runtime of the chapter's examples, made by the layers below.
func chapter(t *testing.T) (api.Runtime, []uint64) {
	t.Helper()
	r, why := sched.Make(6, 2, 2)
	var l []uint64
	for range 3 {
		m, addr, no := barrier.New(r.Gc.Marker, api.Shape{N: 1, Mask: 1})
		r.Gc.Marker, l, why = m, append(l, addr), max(why, no)
	}
	specials, no := special.Add(nil, sample.Final(l[1], 7))
	r.Gc.Specials, r.Mutators[0].Regs[2] = specials, sample.Ref(l[0])
	if !same(r, sample.ThreeLists()) || why != api.OK || no != api.OK {
		t.Fatal(r, why, no)
	}
	return r, l
}

// TestChapter: the chapter's own examples, one after the other.
func TestChapter(t *testing.T) {
	r, l := chapter(t)
	do := func(kind api.TaskKind, who int, want api.Errno, phase api.Phase) api.Ran {
		t.Helper()
		got, ran, why := sched.Do(r, api.Task{Kind: kind, Who: who})
		if why != want || want != api.OK && !same(got, r) || got.Gc.Phase != phase || kind != api.TaskRun && !sample.SameRan(ran, api.Ran{}) {
			t.Fatalf("Do of %d, %d: error %d, phase %d", kind, who, why, got.Gc.Phase)
		}
		r = got
		return ran
	}
	possible := func(want ...api.Task) {
		t.Helper()
		if got, why := sched.Tasks(r); !slices.Equal(got, want) || why != api.OK {
			t.Errorf("Tasks: %v, error %d; want %v", got, why, want)
		}
	}
	possible(api.Task{Kind: api.TaskStart})
	do(api.TaskStart, 0, api.OK, api.PhaseMark)
	do(api.TaskFinish, 0, api.ErrState, api.PhaseMark)
	do(api.TaskScan, 1, api.OK, api.PhaseMark)
	do(api.TaskScan, 1, api.ErrState, api.PhaseMark)
	do(api.TaskScan, 2, api.ErrTask, api.PhaseMark)
	do(api.TaskWork, 0, api.ErrNone, api.PhaseMark)
	do(api.TaskScan, 0, api.OK, api.PhaseMark)
	possible(api.Task{Kind: api.TaskWork, Who: 0}, api.Task{Kind: api.TaskWork, Who: 1})
	for range 3 {
		do(api.TaskWork, 0, api.OK, api.PhaseMark)
	}
	do(api.TaskFinish, 0, api.OK, api.PhaseLate)
	if n, why := queue.Many(r.Gc, api.SpecialFinal, api.SpecialClean); n != 1 || why != api.OK {
		t.Error("items:", n, why)
	}
	for range 3 {
		do(api.TaskWork, 1, api.OK, api.PhaseLate)
	}
	ran := do(api.TaskRun, 0, api.OK, api.PhaseLate)
	if !sample.SameRan(ran, api.Ran{Item: sample.FinalItem(l[1], 7), Fields: []uint64{0}}) || r.Mutators[0].Regs[0] != sample.Ref(l[1]) {
		t.Error("TaskRun:", ran, r.Mutators[0])
	}
	do(api.TaskFinish, 0, api.OK, api.PhaseSweep)
	do(api.TaskWork, 0, api.ErrState, api.PhaseSweep)
	do(api.TaskSweep, 0, api.OK, api.PhaseIdle)
	if got := sample.Addrs(r.Gc.Marker.Heap); !slices.Equal(got, l[:2]) {
		t.Error("objects:", got)
	}
	// The start, two scans, three steps for each object, two of ending the marking, and one of sweeping.
	got, n, why := sched.Cycle(r)
	if n != 12 || why != api.OK || got.Gc.Phase != api.PhaseIdle {
		t.Error("Cycle:", n, why, got.Gc.Phase)
	}
	if roots, why := sched.Roots(got); !slices.Equal(roots, []uint64{l[1], l[0]}) || why != api.OK {
		t.Error("Roots:", roots, why)
	}
}

// TestTwoMutators: the example of the whole chapter: TaskFinish is refused until both mutators are Scanned.
func TestTwoMutators(t *testing.T) {
	for _, order := range [][2]int{{0, 1}, {1, 0}} {
		r, _ := sched.Make(2, 1, 2)
		r, _, _ = sched.Do(r, api.Task{Kind: api.TaskStart})
		for _, who := range order {
			if got, _, why := sched.Do(r, api.Task{Kind: api.TaskFinish}); !same(got, r) || why != api.ErrState {
				t.Error(order, who, why)
			}
			r, _, _ = sched.Do(r, api.Task{Kind: api.TaskScan, Who: who})
		}
		if got, _, why := sched.Do(r, api.Task{Kind: api.TaskFinish}); got.Gc.Phase != api.PhaseLate || why != api.OK || reach.Check(got.Gc) != api.OK {
			t.Error(order, why)
		}
	}
}
