package script

import "besom/api"

// single returns the event with the Times 1. Two events are alike if their single ones are the same.
func single(e api.Event) api.Event {
	e.Times = 1
	return e
}

// singles returns all valid events with the Times 1.
func singles() []api.Event {
	var l []api.Event
	for who := range api.MaxMutators {
		l = append(l, api.Event{Thread: true, Who: who, Times: 1}, taskOf(api.TaskScan, who))
	}
	for who := range api.MaxWorkers {
		l = append(l, taskOf(api.TaskWork, who))
	}
	return append(l, taskOf(api.TaskStart, 0), taskOf(api.TaskFinish, 0), taskOf(api.TaskSweep, 0), taskOf(api.TaskRun, 0))
}

func taskOf(kind api.TaskKind, who int) api.Event {
	return api.Event{Task: api.Task{Kind: kind, Who: who}, Times: 1}
}

// fold adds an event to the last one of a list, which it changes. What that one has no room for, or an event that is not alike, comes behind it.
func fold(l []api.Event, e api.Event) []api.Event {
	if len(l) == 0 || single(l[len(l)-1]) != single(e) {
		return append(l, e)
	}
	last := &l[len(l)-1]
	sum := last.Times + e.Times
	last.Times = min(sum, api.MaxTimes)
	if sum > api.MaxTimes {
		e.Times = sum - api.MaxTimes
		l = append(l, e)
	}
	return l
}
