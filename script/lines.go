package script

import (
	"strconv"
	"strings"

	"besom/api"
	"besom/plain"
)

// times stands between the name of an event and its Times.
const times = " * "

// line returns the line of a valid event.
func line(e api.Event) string {
	if e.Times == 1 {
		return name(e)
	}
	return name(e) + times + strconv.Itoa(e.Times)
}

// name returns the line of a valid event without its Times.
func name(e api.Event) string {
	if e.Thread {
		return "t" + strconv.Itoa(e.Who)
	}
	who := " " + strconv.Itoa(e.Task.Who)
	switch e.Task.Kind {
	case api.TaskStart:
		return "start"
	case api.TaskScan:
		return "scan" + who
	case api.TaskWork:
		return "work" + who
	case api.TaskFinish:
		return "finish"
	case api.TaskSweep:
		return "sweep"
	}
	return "run"
}

// names are the events with the Times 1, by their names.
type names map[string]api.Event

func named() names {
	n := names{}
	for _, e := range singles() {
		n[name(e)] = e
	}
	return n
}

// parse returns the event of a line.
func (n names) parse(line string) (api.Event, bool) {
	what, digits, many := strings.Cut(line, times)
	e, ok := n[what]
	if !ok {
		return api.Event{}, false
	}
	if many {
		e.Times, ok = timesOf(digits)
	}
	return e, ok
}

// timesOf returns the Times that digits tell. Once is told by no digits.
func timesOf(digits string) (int, bool) {
	n, ok := plain.Number(digits)
	if !ok || n <= 1 || n > api.MaxTimes {
		return 0, false
	}
	return int(n), true
}
