package world

import (
	"besom/api"
	"besom/mut"
	"besom/plain"
	"besom/sched"
)

// working is a valid world at work. A pick that it refuses changes nothing.
type working struct {
	api.World
}

// view returns a valid world. It shares the memory of w.
func view(w api.World) (working, api.Errno) {
	if len(w.Ran) > api.MaxRan || sched.Check(w.Runtime) != api.OK {
		return working{}, api.ErrForm
	}
	return working{w}, api.OK
}

// twin returns a copy with memory of its own.
func (w working) twin() working {
	return working{plain.World(w.World)}
}

// do executes a pick, and returns what is heard of it.
func (w *working) do(p api.Pick) (api.Heard, api.Errno) {
	if !p.Mutator {
		ran, why := w.task(p.Task)
		return api.Heard{Ran: ran}, why
	}
	r, reg, why := mut.Do(w.Runtime, p.Who, p.Op)
	w.Runtime = r
	return api.Heard{Reg: reg}, why
}

// task executes a task, and returns what was run by it.
func (w *working) task(t api.Task) (api.Ran, api.Errno) {
	r, ran, why := sched.Do(w.Runtime, t)
	w.Runtime = r
	if why == api.OK && t.Kind == api.TaskRun {
		w.Ran = plain.Record(w.Ran, ran)
	}
	return ran, why
}

// round executes each task once, and returns the number of those that were not refused.
func (w *working) round() int {
	steps := 0
	for _, t := range plain.Tasks(w.Runtime) {
		if _, why := w.task(t); why == api.OK {
			steps++
		}
	}
	return steps
}

// roots returns what the registers refer to, and the objects of the items: 0 for a cleanup, which has none.
func (w working) roots() []uint64 {
	roots, _ := sched.Roots(w.Runtime)
	for _, item := range w.Runtime.Gc.Queue {
		roots = append(roots, item.Addr)
	}
	return roots
}
