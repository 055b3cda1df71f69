package sample

import (
	"math"
	"slices"

	"besom/api"
)

// Turn returns so many steps of a thread.
func Turn(who, times int) api.Event {
	return api.Event{Thread: true, Who: who, Times: times}
}

// Tasked returns a task that is executed so often.
func Tasked(kind api.TaskKind, who, times int) api.Event {
	return api.Event{Task: api.Task{Kind: kind, Who: who}, Times: times}
}

// Often returns the event with these Times.
func Often(e api.Event, times int) api.Event {
	e.Times = times
	return e
}

// NineEvents are those of the examples of chapter 26.
func NineEvents() []api.Event {
	return []api.Event{
		Turn(0, 1), Turn(0, 4095), Turn(0, 2), Tasked(api.TaskStart, 0, 1), Tasked(api.TaskScan, 3, 1),
		Tasked(api.TaskWork, 0, 7), Tasked(api.TaskFinish, 0, 1), Tasked(api.TaskSweep, 0, 1), Tasked(api.TaskRun, 0, 1),
	}
}

// Singles returns the valid events with the Times 1: the steps of threads first, then the tasks.
func Singles() []api.Event {
	var out []api.Event
	for who := range 4 {
		out = append(out, Turn(who, 1))
	}
	out = append(out, Tasked(api.TaskStart, 0, 1))
	for _, kind := range []api.TaskKind{api.TaskScan, api.TaskWork} {
		for who := range 4 {
			out = append(out, Tasked(kind, who, 1))
		}
	}
	return append(out, Tasked(api.TaskFinish, 0, 1), Tasked(api.TaskSweep, 0, 1), Tasked(api.TaskRun, 0, 1))
}

// SomeEvent returns a valid event whose Times are at most so many.
func SomeEvent(p *Picks, most int) api.Event {
	all := Singles()
	return Often(all[p.Below(len(all))], 1+p.Below(most))
}

// SomeEvents returns so many valid events, many of which are alike to the one before.
func SomeEvents(p *Picks, count, most int) []api.Event {
	var out []api.Event
	for i := range count {
		e := SomeEvent(p, most)
		if i > 0 && p.Below(2) == 0 {
			e = Often(out[i-1], e.Times)
		}
		out = append(out, e)
	}
	return out
}

// Schedules returns valid lists of events: without events, small ones, and some that have as many events as there may be.
func Schedules() [][]api.Event {
	p := Picks(261)
	out := [][]api.Event{nil, {}, NineEvents(), NineEvents()[3:], Singles(), {Turn(3, 4096)}, {Turn(0, 4096), Turn(0, 4096), Turn(0, 1)}}
	for _, e := range Singles() {
		for _, times := range []int{1, 2, 9, 10, 99, 100, 4095, 4096} {
			out = append(out, []api.Event{Often(e, times)})
		}
	}
	for i := range 200 {
		out = append(out, SomeEvents(&p, 1+i%30, []int{1, 3, 200, 4096}[i%4]))
	}
	return append(out, SomeEvents(&p, 4095, 1), SomeEvents(&p, 4096, 1), SomeEvents(&p, 4096, 4096),
		slices.Repeat([]api.Event{Turn(1, 1)}, 4096), slices.Repeat([]api.Event{Tasked(api.TaskScan, 3, 4096)}, 4096), slices.Repeat([]api.Event{Turn(1, 1), Turn(2, 1)}, 2048))
}

// BadEvents returns events that are not valid, each for a reason of its own.
func BadEvents() []api.Event {
	bad := []api.Event{{}, {Thread: true}, {Times: 1}, {Who: 1, Times: 1}}
	numbers := []int{math.MinInt, math.MinInt + 1, -4096, -1, 4, 5, 255, 256, 4096, 1 << 32, 1<<32 + 1, math.MaxInt}
	for _, e := range Singles() {
		for _, times := range []int{math.MinInt, math.MinInt + 1, -4096, -1, 0, 4097, 8192, 1 << 32, 1<<32 + 1, math.MaxInt} {
			bad = append(bad, Often(e, times))
		}
		for _, n := range numbers {
			whose, whom := e, e
			whose.Who, whom.Task.Who = n, n
			bad = append(bad, whose, whom)
		}
		if e.Thread {
			bad = append(bad, changedEvent(e, func(e *api.Event) { e.Task.Who = 1 }), changedEvent(e, func(e *api.Event) { e.Task.Kind = api.TaskStart }), changedEvent(e, func(e *api.Event) { e.Task.Kind = 255 }))
			continue
		}
		for who := 1; who < 4; who++ {
			bad = append(bad, changedEvent(e, func(e *api.Event) { e.Who = who }))
			if kind := e.Task.Kind; kind != api.TaskScan && kind != api.TaskWork {
				bad = append(bad, changedEvent(e, func(e *api.Event) { e.Task.Who = who }))
			}
		}
		bad = append(bad, changedEvent(e, func(e *api.Event) { e.Thread = true }))
	}
	for _, kind := range []api.TaskKind{api.TaskNone, api.TaskCount, 8, 16, 64, 127, 128, 129, 130, 255} {
		bad = append(bad, Tasked(kind, 0, 1), Tasked(kind, 3, 4096))
	}
	return bad
}

func changedEvent(e api.Event, change func(e *api.Event)) api.Event {
	change(&e)
	return e
}

// BadSchedules returns lists of events that are not valid, each for a reason of its own.
func BadSchedules() [][]api.Event {
	p := Picks(262)
	bad := [][]api.Event{
		slices.Repeat([]api.Event{Turn(0, 1)}, 4097), slices.Repeat([]api.Event{Turn(0, 1), Turn(1, 4096)}, 10000), SomeEvents(&p, 4097, 4096),
		make([]api.Event, 1), make([]api.Event, 4096), make([]api.Event, 4097), append(slices.Repeat([]api.Event{Turn(0, 1)}, 4095), Turn(0, 0)),
	}
	for i, e := range BadEvents() {
		l := SomeEvents(&p, 6, 4096)
		bad = append(bad, []api.Event{e}, slices.Insert(l, i%7, e))
	}
	return bad
}
