package sched

import (
	"slices"

	"besom/api"
	"besom/barrier"
	"besom/mark"
	"besom/plain"
	"besom/queue"
	"besom/reach"
	"besom/sweep"
)

// working is a valid runtime at work. A task that it refuses changes nothing.
type working struct {
	api.Runtime
}

// view returns a valid runtime. It shares the memory of r.
func view(r api.Runtime) (working, api.Errno) {
	w := working{r}
	// The last of these relies on the first one: without a valid heap there are no objects to ask for.
	if reach.Check(w.Gc) != api.OK || !w.manned() || !w.timely() || !w.rooted() {
		return working{}, api.ErrForm
	}
	return w, api.OK
}

// twin returns a copy with memory of its own.
func (w working) twin() working {
	return working{plain.Runtime(w.Runtime)}
}

// refs returns what the registers of mutators refer to, without 0, in order.
func refs(l ...api.Mutator) []uint64 {
	var addrs []uint64
	for _, m := range l {
		for _, reg := range m.Regs {
			if reg.Ref && reg.W != 0 {
				addrs = append(addrs, reg.W)
			}
		}
	}
	return addrs
}

// can reports whether a task would not be refused. It tries, so that it never differs from what do says.
func (w working) can(t api.Task) bool {
	trial := w.twin()
	_, why := trial.do(t)
	return why == api.OK
}

// do executes a task, and returns what was run by it.
func (w *working) do(t api.Task) (api.Ran, api.Errno) {
	why := api.ErrTask
	switch t.Kind {
	case api.TaskStart:
		w.Gc, why = reach.Start(w.Gc)
	case api.TaskScan:
		why = w.scan(t.Who)
	case api.TaskWork:
		w.Gc.Marker, why = mark.Scan(w.Gc.Marker, t.Who)
	case api.TaskFinish:
		why = w.finish()
	case api.TaskSweep:
		w.Gc, _, why = sweep.Sweep(w.Gc)
	case api.TaskRun:
		return w.run()
	}
	return api.Ran{}, why
}

// shade shades objects with worker 0, whom every marker has. The marker has to be On.
func (w *working) shade(addrs ...uint64) {
	w.Gc.Marker, _, _ = barrier.Shade(w.Gc.Marker, 0, addrs...)
}

// scan shades what the registers of a mutator refer to.
func (w *working) scan(who int) api.Errno {
	if who < 0 || who >= len(w.Mutators) {
		return api.ErrTask
	}
	m := &w.Mutators[who]
	if w.Gc.Phase != api.PhaseMark || m.Scanned {
		return api.ErrState
	}
	w.shade(refs(*m)...)
	m.Scanned = true
	return api.OK
}

// finish executes one step of ending the marking.
func (w *working) finish() api.Errno {
	unscanned := func(m api.Mutator) bool { return !m.Scanned }
	if w.Gc.Phase == api.PhaseMark && slices.ContainsFunc(w.Mutators, unscanned) {
		return api.ErrState
	}
	g, _, why := reach.Finish(w.Gc)
	w.Gc = g
	if w.Gc.Phase == api.PhaseSweep {
		for i := range w.Mutators {
			w.Mutators[i].Scanned = false
		}
	}
	return why
}

// run runs the first item of the queue. An odd Tag brings the object of a finalizer back: the first register refers to it then.
func (w *working) run() (api.Ran, api.Errno) {
	g, ran, why := queue.Run(w.Gc)
	w.Gc = g
	if why != api.OK || ran.Item.Kind != api.SpecialFinal || ran.Item.Tag%2 == 0 {
		return ran, why
	}
	w.Mutators[0].Regs[0] = api.Reg{Ref: true, W: ran.Item.Addr}
	if w.Gc.Marker.On {
		w.shade(ran.Item.Addr)
	}
	return ran, api.OK
}

// cycle executes a whole collection, and returns the number of its steps. With an error it leaves one that came to no end.
func (w *working) cycle() (int, api.Errno) {
	g, why := reach.Start(w.Gc)
	if why != api.OK {
		return 0, why
	}
	w.Gc = g
	steps := 1
	for who := range w.Mutators {
		w.scan(who)
		steps++
	}
	for w.Gc.Marker.On {
		steps += w.work() + 1
		if why := w.finish(); why != api.OK {
			return 0, why
		}
	}
	for w.Gc.Phase == api.PhaseSweep {
		w.Gc, _, _ = sweep.Sweep(w.Gc)
		steps++
	}
	return steps, api.OK
}

// work executes the steps of workers that are left, and returns their number. As in Tasks, worker 0 comes first as long as there is anything for it.
func (w *working) work() int {
	m, steps, _ := mark.Run(w.Gc.Marker, 0)
	w.Gc.Marker = m
	return steps
}
