package sched_test

import (
	"slices"

	"besom/api"
	"besom/mark"
	"besom/queue"
	"besom/reach"
	"besom/sample"
	"besom/sweep"
)

// What the chapter's words say of the tasks, written down once more, and without regard for speed.

var same = sample.SameRuntimes

// valid reports whether a runtime is valid.
func valid(r api.Runtime) bool {
	if reach.Check(r.Gc) != api.OK || len(r.Mutators) == 0 || len(r.Mutators) > 4 {
		return false
	}
	current, marked := sample.Addrs(r.Gc.Marker.Heap), sample.Marked(r.Gc.Marker.Heap)
	for _, m := range r.Mutators {
		if len(m.Regs) != 4 || m.Scanned && !r.Gc.Marker.On || !m.Scanned && r.Gc.Phase == api.PhaseLate {
			return false
		}
		for _, addr := range sample.Refs(m) {
			if !slices.Contains(current, addr) || m.Scanned && !slices.Contains(marked, addr) {
				return false
			}
		}
	}
	return true
}

// shadow shades objects with worker 0.
func shadow(m api.Marker, addrs ...uint64) api.Marker {
	m = sample.CopyMarker(m)
	for _, addr := range addrs {
		if marked := sample.Marked(m.Heap); !slices.Contains(marked, addr) {
			m.Heap = sample.Marks(m.Heap, append(marked, addr)...)
			m.Grey.Queues[0] = append(m.Grey.Queues[0], addr)
		}
	}
	return m
}

// done is what Do answers.
func done(r api.Runtime, t api.Task) (api.Runtime, api.Ran, api.Errno) {
	out, ran, why := sample.CopyRuntime(r), api.Ran{}, api.OK
	switch t.Kind {
	case api.TaskStart:
		out.Gc, why = reach.Start(r.Gc)
	case api.TaskScan:
		out, why = scanned(out, t.Who)
	case api.TaskWork:
		out.Gc.Marker, why = mark.Scan(r.Gc.Marker, t.Who)
	case api.TaskFinish:
		out, why = finished(out)
	case api.TaskSweep:
		out.Gc, _, why = sweep.Sweep(r.Gc)
	case api.TaskRun:
		out.Gc, ran, why = queue.Run(r.Gc)
		if ran.Item.Kind == api.SpecialFinal && ran.Item.Tag&1 != 0 {
			out.Mutators[0].Regs[0] = sample.Ref(ran.Item.Addr)
			if out.Gc.Marker.On {
				out.Gc.Marker = shadow(out.Gc.Marker, ran.Item.Addr)
			}
		}
	default:
		why = api.ErrTask
	}
	if why != api.OK {
		return r, api.Ran{}, why
	}
	return out, ran, api.OK
}

// scanned is what TaskScan makes of r, which it may change.
func scanned(r api.Runtime, who int) (api.Runtime, api.Errno) {
	if who < 0 || who >= len(r.Mutators) {
		return r, api.ErrTask
	}
	if r.Gc.Phase != api.PhaseMark || r.Mutators[who].Scanned {
		return r, api.ErrState
	}
	r.Gc.Marker = shadow(r.Gc.Marker, sample.Refs(r.Mutators[who])...)
	r.Mutators[who].Scanned = true
	return r, api.OK
}

// finished is what TaskFinish makes of r, which it may change.
func finished(r api.Runtime) (api.Runtime, api.Errno) {
	if r.Gc.Phase == api.PhaseMark {
		for _, m := range r.Mutators {
			if !m.Scanned {
				return r, api.ErrState
			}
		}
	}
	g, _, why := reach.Finish(r.Gc)
	r.Gc = g
	if why == api.OK && g.Phase == api.PhaseSweep {
		for i := range r.Mutators {
			r.Mutators[i].Scanned = false
		}
	}
	return r, why
}

// all are the tasks that there are in a runtime, in the order of Tasks.
func all(r api.Runtime) []api.Task {
	out := []api.Task{{Kind: api.TaskStart}}
	for i := range r.Mutators {
		out = append(out, api.Task{Kind: api.TaskScan, Who: i})
	}
	for i := range r.Gc.Marker.Grey.Queues {
		out = append(out, api.Task{Kind: api.TaskWork, Who: i})
	}
	return append(out, api.Task{Kind: api.TaskFinish}, api.Task{Kind: api.TaskSweep}, api.Task{Kind: api.TaskRun})
}

// possible is what Tasks answers.
func possible(r api.Runtime) []api.Task {
	return slices.DeleteFunc(all(r), func(t api.Task) bool {
		_, _, why := done(r, t)
		return why != api.OK
	})
}

// cycled is what Cycle answers.
func cycled(r api.Runtime) (api.Runtime, int, api.Errno) {
	out, _, why := done(r, api.Task{Kind: api.TaskStart})
	if why != api.OK {
		return r, 0, why
	}
	steps := 1
	for out.Gc.Phase != api.PhaseIdle {
		next, ok := first(out)
		if !ok {
			return r, 0, api.ErrFull
		}
		out, steps = next, steps+1
	}
	return out, steps, api.OK
}

// first is what the first possible task, except TaskStart and TaskRun, makes of r, if there is one.
func first(r api.Runtime) (api.Runtime, bool) {
	for _, t := range all(r) {
		if t.Kind == api.TaskStart || t.Kind == api.TaskRun {
			continue
		}
		if out, _, why := done(r, t); why == api.OK {
			return out, true
		}
	}
	return r, false
}

// small are the runtimes of the sample that a test may try again and again.
func small() []api.Runtime {
	return slices.DeleteFunc(sample.Runtimes(), func(r api.Runtime) bool { return len(r.Gc.Marker.Heap.Spans) > 100 })
}

// runtimes are valid runtimes in all phases, with small heaps.
func runtimes(n int) []api.Runtime {
	out := append(small(), busy())
	p := sample.Picks(111)
	for i := range n {
		out = append(out, sample.SomeRuntime(&p, i%10, 1+i%4, 1+i/4%4))
	}
	return out
}

// idles are valid runtimes in PhaseIdle, with small heaps. Their queues have room for all specials.
func idles(p *sample.Picks, n int) []api.Runtime {
	var out []api.Runtime
	for len(out) < n {
		r := sample.SomeRuntime(p, len(out)%10, 1+len(out)%4, 1+p.Below(4))
		if r.Gc.Phase != api.PhaseIdle && (r.Gc.Phase != api.PhaseSweep || !sample.AllAreSwept(r.Gc.Marker.Heap)) {
			continue
		}
		r.Gc.Phase, r.Gc.Queue = api.PhaseIdle, r.Gc.Queue[:min(len(r.Gc.Queue), 192)]
		out = append(out, r)
	}
	return out
}

// full are valid runtimes in PhaseIdle whose queues are full of cleanups, or nearly so.
func full(p *sample.Picks, n int) []api.Runtime {
	out := idles(p, n)
	for i := range out {
		out[i].Gc.Queue = slices.Repeat([]api.Item{sample.CleanItem(1)}, 256-p.Below(8))
	}
	return out
}

// busy is in PhaseMark, with something of all kinds: one mutator of three is not Scanned, and refers to white objects, some of them twice.
func busy() api.Runtime {
	g := sample.SixMarked(api.PhaseMark, 16, 22, 24)
	g.Marker = sample.On(g.Marker.Heap, []api.Hand{{}, {Obj: 24, Field: 1}}, []uint64{16})
	g.Table = sample.Without(sample.Pairs(16, 16, 18, 20, 26, 24, 0, 26, 20), 16)
	g.Specials = []api.Special{sample.Cleanup(16, 1), sample.Final(16, 2), sample.Cleanup(20, 3), sample.Final(22, 5), sample.Cleanup(26, 6)}
	g.Weak = []uint64{16, 0, 26}
	g.Queue = []api.Item{sample.FinalItem(22, 7), sample.CleanItem(9), sample.FinalItem(24, 8), sample.FinalItem(16, 1<<63+1)}
	return sample.Runtime(g,
		sample.Mutator(sample.Ref(26), sample.Num(18), sample.Ref(0), sample.Ref(20)),
		sample.Scanned(sample.Mutator(sample.Ref(22), sample.Ref(16), sample.Num(0), sample.Num(20))),
		sample.Mutator(sample.Ref(20), sample.Ref(20), sample.Ref(18), sample.Ref(16)))
}
