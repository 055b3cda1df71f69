package script_test

import (
	"fmt"
	"math/big"
	"regexp"
	"slices"
	"strings"

	"besom/api"
)

// What the chapter's words say, written down once more, with patterns and with numbers that know of no greatest one.

// same reports whether two lists are alike; a nil list is an empty one.
func same(a, b []api.Event) bool {
	return slices.Equal(a, b)
}

// alike reports whether two events differ at most in Times.
func alike(a, b api.Event) bool {
	return a.Thread == b.Thread && a.Who == b.Who && a.Task.Kind == b.Task.Kind && a.Task.Who == b.Task.Who
}

func in(n, first, last int) bool {
	return n >= first && n <= last
}

// valid reports whether an event is valid.
func valid(e api.Event) bool {
	if !in(e.Times, 1, 4096) {
		return false
	}
	if e.Thread {
		return in(e.Who, 0, 3) && e.Task.Kind == 0 && e.Task.Who == 0
	}
	switch e.Task.Kind {
	case api.TaskWork, api.TaskScan:
		return e.Who == 0 && in(e.Task.Who, 0, 3)
	case api.TaskStart, api.TaskFinish, api.TaskSweep, api.TaskRun:
		return e.Who == 0 && e.Task.Who == 0
	}
	return false
}

// checked is what Check answers.
func checked(l []api.Event) api.Errno {
	if len(l) > 4096 || slices.ContainsFunc(l, func(e api.Event) bool { return !valid(e) }) {
		return api.ErrForm
	}
	return api.OK
}

// lineOf is the line of a valid event.
func lineOf(e api.Event) string {
	name := map[api.TaskKind]string{
		api.TaskStart: "start", api.TaskScan: "scan", api.TaskWork: "work", api.TaskFinish: "finish", api.TaskSweep: "sweep", api.TaskRun: "run",
	}[e.Task.Kind]
	if e.Thread {
		name = fmt.Sprintf("t%d", e.Who)
	}
	if e.Task.Kind == api.TaskScan || e.Task.Kind == api.TaskWork {
		name += fmt.Sprintf(" %d", e.Task.Who)
	}
	if e.Times != 1 {
		name += fmt.Sprintf(" * %d", e.Times)
	}
	return name
}

// printed is what Print answers of a valid list.
func printed(l []api.Event) string {
	out := ""
	for _, e := range l {
		out += lineOf(e) + "\n"
	}
	return out
}

const someTimes = `( \* (0|[1-9][0-9]*))?`

var (
	stepLine = regexp.MustCompile(`^t([0-3])` + someTimes + `$`)
	taskLine = regexp.MustCompile(`^(start|finish|sweep|run|(scan|work) ([0-3]))` + someTimes + `$`)
)

// told is the event of a line.
func told(line string) (api.Event, bool) {
	if words := stepLine.FindStringSubmatch(line); words != nil {
		times, ok := timesOf(words[3])
		return api.Event{Thread: true, Who: int(words[1][0] - '0'), Times: times}, ok
	}
	words := taskLine.FindStringSubmatch(line)
	if words == nil {
		return api.Event{}, false
	}
	times, ok := timesOf(words[5])
	e := api.Event{Times: times}
	e.Task.Kind = map[string]api.TaskKind{
		"start": api.TaskStart, "scan": api.TaskScan, "work": api.TaskWork, "finish": api.TaskFinish, "sweep": api.TaskSweep, "run": api.TaskRun,
	}[strings.Fields(words[1])[0]]
	if words[3] != "" {
		e.Task.Who = int(words[3][0] - '0')
	}
	return e, ok
}

// timesOf are the Times of digits, or once.
func timesOf(digits string) (int, bool) {
	if digits == "" {
		return 1, true
	}
	n, _ := new(big.Int).SetString(digits, 10)
	if n.Cmp(big.NewInt(2)) < 0 || n.Cmp(big.NewInt(4096)) > 0 {
		return 0, false
	}
	return int(n.Int64()), true
}

// parsed is what Parse answers.
func parsed(text string) ([]api.Event, int, api.Errno) {
	if len(text) > 65536 {
		return nil, 0, api.ErrRange
	}
	var l []api.Event
	for i, line := range strings.Split(text, "\n") {
		if line == "" {
			continue
		}
		e, ok := told(line)
		if !ok {
			return nil, i + 1, api.ErrForm
		}
		if len(l) == 4096 {
			return nil, i + 1, api.ErrFull
		}
		l = append(l, e)
	}
	return l, 0, api.OK
}

// folded is what Fold answers of a valid list: of all that are alike and follow one another, as many as may be in each event.
func folded(l []api.Event) []api.Event {
	var out []api.Event
	for len(l) > 0 {
		sum, n := 0, 0
		for n < len(l) && alike(l[n], l[0]) {
			sum += l[n].Times
			n++
		}
		for e := l[0]; sum > 0; sum -= e.Times {
			e.Times = min(sum, 4096)
			out = append(out, e)
		}
		l = l[n:]
	}
	return out
}

// spread is what Spread answers of a valid list.
func spread(l []api.Event) ([]api.Event, api.Errno) {
	var out []api.Event
	for _, e := range l {
		times := e.Times
		e.Times = 1
		out = append(out, slices.Repeat([]api.Event{e}, times)...)
		if len(out) > 4096 {
			return nil, api.ErrFull
		}
	}
	return out, api.OK
}

// steps is what Steps answers of a valid list.
func steps(l []api.Event, of ...api.Event) int {
	sum := 0
	for _, e := range l {
		if len(of) == 0 || slices.ContainsFunc(of, func(x api.Event) bool { return alike(x, e) }) {
			sum += e.Times
		}
	}
	return sum
}

// badLines are lines of no event.
func badLines() []string {
	return []string{
		"t4", "t0 * 1", "t0 * 0", "t00", "scan", "work 4", "run 0", "t0 * 4097", "t-1",
		" ", "  ", "\t", "\r", "\x00", "\xff", "#", ";", "*", " * ", " * 2", "* 2", "2", "0", "x", "T0", "Start", "START", "starts", "star", "st", "s", "é",
		"t", "t ", "t0 ", " t0", "t 0", "t0\r", "t0\t", "t01", "t10", "t4294967296", "t18446744073709551616", "t+1", "tt0", "t0t0", "t0 t1", "ta", "t0;", "t0 # x", "t٣",
		"t0 *", "t0 * ", "t0 *2", "t0* 2", "t0*2", "t0  * 2", "t0 *  2", "t0 * 2 ", " t0 * 2", "t0 * 02", "t0 * 2 * 2", "t0 * 1 * 2", "t0 * 2 * 1", "t0 * -2", "t0 * +2", "t0 * 2.0", "t0 * 0x2", "t0 * 1e3", "t0 * 1_000", "t0 * two", "t0 * r", "t0 x 2", "t0 × 2",
		"t0 * 00", "t0 * 01", "t0 * -0", "t0 * 4098", "t0 * 5000", "t0 * 04096", "t0 * 40960", "t0 * 4294967298", "t0 * 18446744073709551616", "t0 * 18446744073709551618", "t0 * 99999999999999999999999", "t0 * ٣", "t4 * 2", "t0\t*\t2",
		"start 0", "start 1", "start ", "start * 1", "start * 0", "start * 4097", "start * 02", "start*2", "start *", "start start",
		"scan ", "scan  0", "scan0", "scan 00", "scan 4", "scan -1", "scan +1", "scan 01", "scan 10", "scan 0 ", "scan 0 1", "scan a", "scan * 2", "scan 0 * 1", "scan 0 * 0", "scan 0 * 4097", "scan 4 * 2", "scan t0", "Scan 0", "scan\t0", "scan 4294967296",
		"work", "work ", "work  0", "work0", "work 00", "work -1", "work +1", "work 03", "work 0 0", "work * 2", "work 0 * 1", "work 0 * 4097", "work 4 * 4", "work 18446744073709551616",
		"finish 0", "finish ", "finish * 1", "finish * 4097", "finished", "fin", "sweep 0", "sweep * 1", "sweep * 5000", "sweeps", "run * 1", "run 1", "run * 4097", "runs", "run\r", "run run", "none", "task", "step", "step 0", "idle",
	}
}
