package vm

import (
	"slices"

	"besom/api"
	"besom/plain"
)

// playable reports whether there are no more events than there may be, and none is to happen more often than it may.
func playable(l []api.Event) bool {
	return len(l) <= api.MaxEvents && !slices.ContainsFunc(l, func(e api.Event) bool {
		return e.Times < 0 || e.Times > api.MaxTimes
	})
}

// play executes events in order, and returns the number of steps that were not refused.
func (w *working) play(l ...api.Event) int {
	steps := 0
events:
	for _, e := range l {
		for range e.Times {
			if w.happen(e) != api.OK {
				continue events
			}
			steps++
		}
	}
	return steps
}

// happen executes an event once.
func (w *working) happen(e api.Event) api.Errno {
	if e.Thread {
		return w.step(e.Who)
	}
	_, why := w.task(e.Task)
	return why
}

// round executes one step of each thread, and each task once. What is refused is passed over.
func (w *working) round() {
	for who := range w.Threads {
		w.step(who)
	}
	for _, t := range plain.Tasks(w.Runtime) {
		w.task(t)
	}
}
