package sched_test

import (
	"slices"

	"besom/api"
	"besom/mark"
	"besom/queue"
	"besom/reach"
	"besom/sample"
	"besom/sweep"
)

// What the chapter's words say of the tasks, written down once more, and without regard for speed.

var same = sample.SameRuntimes

// valid reports whether a runtime is valid.
func valid(r api.Runtime) bool {
	if reach.Check(r.Gc) != api.OK || len(r.Mutators) == 0 || len(r.Mutators) > 4 {
		return false
	}
	current, marked := sample.Addrs(r.Gc.Marker.Heap), sample.Marked(r.Gc.Marker.Heap)
	for _, m := range r.Mutators {
		if len(m.Regs) != 4 || m.Scanned && !r.Gc.Marker.On || !m.Scanned && r.Gc.Phase == api.PhaseLate {
			return false
		}
		for _, addr := range sample.Refs(m) {
			if !slices.Contains(current, addr) || m.Scanned && !slices.Contains(marked, addr) {
				return false
			}
		}
	}
	return true
}

// done is what Do answers.
func done(r api.Runtime, t api.Task) (api.Runtime, api.Ran, api.Errno) {
	out, ran, why := sample.CopyRuntime(r), api.Ran{}, api.OK
	switch t.Kind {
	case api.TaskStart:
		out.Gc, why = reach.Start(r.Gc)
	case api.TaskScan:
		out, why = scanned(out, t.Who)
	case api.TaskWork:
		out.Gc.Marker, why = mark.Scan(r.Gc.Marker, t.Who)
	case api.TaskFinish:
		out, why = finished(out)
	case api.TaskSweep:
		out.Gc, _, why = sweep.Sweep(r.Gc)
	case api.TaskRun:
		out.Gc, ran, why = queue.Run(r.Gc)
		if ran.Item.Kind == api.SpecialFinal && ran.Item.Tag&1 != 0 {
			out.Mutators[0].Regs[0] = sample.Ref(ran.Item.Addr)
			if out.Gc.Marker.On {
				out.Gc.Marker = sample.Shaded(out.Gc.Marker, ran.Item.Addr)
			}
		}
	default:
		why = api.ErrTask
	}
	if why != api.OK {
		return r, api.Ran{}, why
	}
	return out, ran, api.OK
}

// scanned is what TaskScan makes of r, which it may change.
func scanned(r api.Runtime, who int) (api.Runtime, api.Errno) {
	if who < 0 || who >= len(r.Mutators) {
		return r, api.ErrTask
	}
	if r.Gc.Phase != api.PhaseMark || r.Mutators[who].Scanned {
		return r, api.ErrState
	}
	r.Gc.Marker = sample.Shaded(r.Gc.Marker, sample.Refs(r.Mutators[who])...)
	r.Mutators[who].Scanned = true
	return r, api.OK
}

// finished is what TaskFinish makes of r, which it may change.
func finished(r api.Runtime) (api.Runtime, api.Errno) {
	if r.Gc.Phase == api.PhaseMark {
		for _, m := range r.Mutators {
			if !m.Scanned {
				return r, api.ErrState
			}
		}
	}
	g, _, why := reach.Finish(r.Gc)
	r.Gc = g
	if why == api.OK && g.Phase == api.PhaseSweep {
		for i := range r.Mutators {
			r.Mutators[i].Scanned = false
		}
	}
	return r, why
}

// all are the tasks that there are in a runtime, in the order of Tasks.
func all(r api.Runtime) []api.Task {
	out := []api.Task{{Kind: api.TaskStart}}
	for i := range r.Mutators {
		out = append(out, api.Task{Kind: api.TaskScan, Who: i})
	}
	for i := range r.Gc.Marker.Grey.Queues {
		out = append(out, api.Task{Kind: api.TaskWork, Who: i})
	}
	return append(out, api.Task{Kind: api.TaskFinish}, api.Task{Kind: api.TaskSweep}, api.Task{Kind: api.TaskRun})
}

// possible is what Tasks answers.
func possible(r api.Runtime) []api.Task {
	return slices.DeleteFunc(all(r), func(t api.Task) bool {
		_, _, why := done(r, t)
		return why != api.OK
	})
}

// cycled is what Cycle answers.
func cycled(r api.Runtime) (api.Runtime, int, api.Errno) {
	out, _, why := done(r, api.Task{Kind: api.TaskStart})
	if why != api.OK {
		return r, 0, why
	}
	steps := 1
	for out.Gc.Phase != api.PhaseIdle {
		next, ok := first(out)
		if !ok {
			return r, 0, api.ErrFull
		}
		out, steps = next, steps+1
	}
	return out, steps, api.OK
}

// first is what the first possible task, except TaskStart and TaskRun, makes of r, if there is one.
func first(r api.Runtime) (api.Runtime, bool) {
	for _, t := range all(r) {
		if t.Kind == api.TaskStart || t.Kind == api.TaskRun {
			continue
		}
		if out, _, why := done(r, t); why == api.OK {
			return out, true
		}
	}
	return r, false
}

// runtimes are valid runtimes in all phases, with small heaps.
func runtimes(n int) []api.Runtime {
	out := append(sample.SmallRuntimes(), sample.BusyRuntime())
	p := sample.Picks(111)
	for i := range n {
		out = append(out, sample.SomeRuntime(&p, i%10, 1+i%4, 1+i/4%4))
	}
	return out
}

// idles are valid runtimes in PhaseIdle, with small heaps. Their queues have room for all specials.
func idles(p *sample.Picks, n int) []api.Runtime {
	var out []api.Runtime
	for len(out) < n {
		r := sample.SomeRuntime(p, len(out)%10, 1+len(out)%4, 1+p.Below(4))
		if r.Gc.Phase != api.PhaseIdle && (r.Gc.Phase != api.PhaseSweep || !sample.AllAreSwept(r.Gc.Marker.Heap)) {
			continue
		}
		r.Gc.Phase, r.Gc.Queue = api.PhaseIdle, r.Gc.Queue[:min(len(r.Gc.Queue), 192)]
		out = append(out, r)
	}
	return out
}

// full are valid runtimes in PhaseIdle whose queues are full of cleanups, or nearly so.
func full(p *sample.Picks, n int) []api.Runtime {
	out := idles(p, n)
	for i := range out {
		out[i].Gc.Queue = slices.Repeat([]api.Item{sample.CleanItem(1)}, 256-p.Below(8))
	}
	return out
}
