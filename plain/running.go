package plain

import (
	"slices"

	"besom/api"
)

// Tasks returns the tasks that there are in a valid runtime, whether or not they are possible now, in the order of the document.
func Tasks(r api.Runtime) []api.Task {
	l := []api.Task{{Kind: api.TaskStart}}
	for who := range r.Mutators {
		l = append(l, api.Task{Kind: api.TaskScan, Who: who})
	}
	for who := range r.Gc.Marker.Hands {
		l = append(l, api.Task{Kind: api.TaskWork, Who: who})
	}
	return append(l, api.Task{Kind: api.TaskFinish}, api.Task{Kind: api.TaskSweep}, api.Task{Kind: api.TaskRun})
}

// Record returns the list, which it changes, with x at its end. Of more than there may be, the first one is forgotten.
func Record(l []api.Ran, x api.Ran) []api.Ran {
	if len(l) == api.MaxRan {
		l = slices.Delete(l, 0, 1)
	}
	// The record has fields of its own, because what was run is also handed out.
	return append(l, Ran(x))
}

// Rounds executes rounds of steps until none of all workers, of whom there are so many, has one to execute. In each round, each of the given workers executes one step; if none are given, all do. step reports whether the worker had one to execute.
func Rounds(all int, given []int, step func(worker int) bool) {
	if len(given) == 0 {
		given = make([]int, all)
		for worker := range given {
			given[worker] = worker
		}
	}
rounds:
	for {
		worked := false
		for _, worker := range given {
			worked = step(worker) || worked
		}
		if worked {
			continue
		}
		// Only others have an object in hand: one of them goes on, because it may have work for these workers.
		for worker := range all {
			if step(worker) {
				continue rounds
			}
		}
		return
	}
}
