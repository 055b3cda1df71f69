package script_test

import (
	"math"
	"slices"
	"strings"
	"testing"

	"besom/api"
	"besom/sample"
	"besom/script"
)

// expect holds Parse to what is expected of a text.
func expect(t *testing.T, text string, want []api.Event, line int, no api.Errno) {
	t.Helper()
	if l, at, why := script.Parse(text); !same(l, want) || at != line || why != no {
		t.Errorf("Parse of %.100q: %d events, line %d, error %d; want %d, line %d, error %d", text, len(l), at, why, len(want), line, no)
	}
}

// TestInvalidComesFirst: of a list that is not valid there is no result.
func TestInvalidComesFirst(t *testing.T) {
	for i, l := range sample.BadSchedules() {
		if text, why := script.Print(l); text != "" || why != api.ErrForm {
			t.Errorf("Print of invalid list %d: %.100q, error %d", i, text, why)
		}
		if got, why := script.Fold(l); len(got) != 0 || why != api.ErrForm {
			t.Errorf("Fold of invalid list %d: %d events, error %d", i, len(got), why)
		}
		if got, why := script.Spread(l); len(got) != 0 || why != api.ErrForm {
			t.Errorf("Spread of invalid list %d: %d events, error %d", i, len(got), why)
		}
		for _, of := range [][]api.Event{nil, {sample.Turn(0, 1)}, {sample.Turn(9, 9), {}}} {
			if n, why := script.Steps(l, of...); n != 0 || why != api.ErrForm {
				t.Errorf("Steps of invalid list %d: %d, error %d", i, n, why)
			}
		}
	}
}

// 26.1

func TestCheck(t *testing.T) {
	for i, l := range sample.Schedules() {
		if why := script.Check(l); why != api.OK || checked(l) != api.OK {
			t.Errorf("Check of list %d: error %d", i, why)
		}
	}
	for i, l := range sample.BadSchedules() {
		if why := script.Check(l); why != api.ErrForm || checked(l) != api.ErrForm {
			t.Errorf("Check of invalid list %d: error %d", i, why)
		}
	}
	for i, e := range []api.Event{sample.Turn(0, 0), sample.Turn(4, 1), sample.Tasked(api.TaskRun, 1, 1)} {
		if why := script.Check([]api.Event{e}); why != api.ErrForm {
			t.Errorf("example %d: error %d", i, why)
		}
	}
}

// TestCheckFields: whatever one field of an event is replaced by, Check answers what the chapter's words say.
func TestCheckFields(t *testing.T) {
	var changes []func(e *api.Event)
	for kind := range 256 {
		changes = append(changes, func(e *api.Event) { e.Task.Kind = api.TaskKind(kind) })
	}
	for _, n := range append(sample.Ints(), 0, 1, 2, 3, 4, 5, 255, 256, 257, 4095, 4096, 4098, 1<<32+1, 1<<32+3, 1<<62) {
		changes = append(changes, func(e *api.Event) { e.Who = n }, func(e *api.Event) { e.Task.Who = n }, func(e *api.Event) { e.Times = n })
	}
	changes = append(changes, func(e *api.Event) { e.Thread = !e.Thread })
	counts := map[bool]int{}
	for i, start := range sample.Singles() {
		for k, change := range changes {
			e := start
			change(&e)
			l := []api.Event{start, e, start}
			want := checked(l)
			if why := script.Check(l); why != want {
				t.Errorf("event %d, change %d, %v: error %d", i, k, e, why)
			}
			counts[want == api.OK]++
		}
	}
	if counts[true] < 100 || counts[false] < 1000 {
		t.Error(counts)
	}
}

// TestCheckLength: there are at most 4096 events.
func TestCheckLength(t *testing.T) {
	for n, want := range map[int]api.Errno{0: api.OK, 1: api.OK, 4095: api.OK, 4096: api.OK, 4097: api.ErrForm, 4098: api.ErrForm, 8192: api.ErrForm, 70000: api.ErrForm} {
		for _, times := range []int{1, 4096} {
			if why := script.Check(slices.Repeat([]api.Event{sample.Turn(2, times)}, n)); why != want {
				t.Error(n, times, why)
			}
		}
	}
}

// TestParseLines: the line of each event is read as that event, and each other one is refused, alone and behind others.
func TestParseLines(t *testing.T) {
	for _, e := range sample.Singles() {
		for _, times := range []int{1, 2, 3, 9, 10, 11, 100, 999, 1000, 4095, 4096} {
			e := sample.Often(e, times)
			expect(t, lineOf(e), []api.Event{e}, 0, api.OK)
			expect(t, "\n\n"+lineOf(e)+"\n\n"+lineOf(e)+"\n", []api.Event{e, e}, 0, api.OK)
		}
		for _, end := range []string{" * 1", " * 0", " * 4097", " * 02", " * 2 ", " *", " 0 * 2", "\r", " * 2 * 2"} {
			expect(t, lineOf(e)+end, nil, 1, api.ErrForm)
		}
	}
	for _, line := range badLines() {
		expect(t, line, nil, 1, api.ErrForm)
		expect(t, line+"\n", nil, 1, api.ErrForm)
		expect(t, "\nt0\n\nrun * 2\n"+line+"\nt5\n", nil, 5, api.ErrForm)
		if _, ok := told(line); ok {
			t.Errorf("%q is the line of an event", line)
		}
	}
}

// TestParseEmpty: empty lines are passed over, and counted.
func TestParseEmpty(t *testing.T) {
	for _, text := range []string{"", "\n", "\n\n\n", strings.Repeat("\n", 65536)} {
		expect(t, text, nil, 0, api.OK)
	}
	expect(t, "\n\n\n\nx\n", nil, 5, api.ErrForm)
	expect(t, "t0\n\nt1 \n\nx\n", nil, 3, api.ErrForm)
	expect(t, "\n\nt1\n\n\nt1\n\n", []api.Event{sample.Turn(1, 1), sample.Turn(1, 1)}, 0, api.OK)
}

// TestParseFull: there are at most 4096 events; one more is refused, wherever it is, but what is not the line of an event is that first.
func TestParseFull(t *testing.T) {
	most := slices.Repeat([]api.Event{sample.Turn(0, 1)}, 4096)
	full := strings.Repeat("t0\n", 4096)
	expect(t, full, most, 0, api.OK)
	expect(t, full+"\n\n\n", most, 0, api.OK)
	expect(t, full[3:]+"\n\nt0", most, 0, api.OK)
	for _, x := range []struct {
		text string
		line int
		want api.Errno
	}{
		{full + "t0", 4097, api.ErrFull}, {full + "t0\n", 4097, api.ErrFull}, {full + "run * 4096\nx", 4097, api.ErrFull}, {full + "\n\nt3\n", 4099, api.ErrFull}, {"\n" + full + "\nscan 0", 4099, api.ErrFull},
		{full + "t4", 4097, api.ErrForm}, {full + "t0 * 1", 4097, api.ErrForm}, {full + "\n \nt0", 4098, api.ErrForm}, {full[3:] + "x\nt0", 4096, api.ErrForm}, {"x\n" + full + full, 1, api.ErrForm},
	} {
		expect(t, x.text, nil, x.line, x.want)
	}
}

// TestParseLong: a text has at most 65536 bytes, and what is longer is refused whatever is in it.
func TestParseLong(t *testing.T) {
	one := []api.Event{sample.Turn(2, 1)}
	for n, want := range map[int]api.Errno{65535: api.OK, 65536: api.OK, 65537: api.ErrRange, 65538: api.ErrRange, 1 << 20: api.ErrRange} {
		l := one
		if want != api.OK {
			l = nil
		}
		expect(t, "t2"+strings.Repeat("\n", n-2), l, 0, want)
		expect(t, strings.Repeat("\n", n-2)+"t2", l, 0, want)
	}
	expect(t, "x\n"+strings.Repeat("t0\n", 30000), nil, 0, api.ErrRange)
	expect(t, strings.Repeat("x", 65537), nil, 0, api.ErrRange)
	expect(t, strings.Repeat("x", 65536), nil, 1, api.ErrForm)
	expect(t, strings.Repeat("t0\n", 21845)[:65535], nil, 4097, api.ErrFull)
	expect(t, strings.Repeat("\n", 65533)+"run", []api.Event{sample.Tasked(api.TaskRun, 0, 1)}, 0, api.OK)
	expect(t, "t0 * "+strings.Repeat("9", 60000), nil, 1, api.ErrForm)
	expect(t, "t0"+strings.Repeat(" * 2", 16000), nil, 1, api.ErrForm)
}

// TestParseSomeTexts: texts of lines as they come, some of which are changed, are answered as the chapter's words say.
func TestParseSomeTexts(t *testing.T) {
	p := sample.Picks(263)
	bad := badLines()
	whys := map[api.Errno]int{}
	for range 20000 {
		l := strings.Split(printed(sample.SomeEvents(&p, p.Below(12), []int{1, 9, 4096}[p.Below(3)])), "\n")
		for range p.Below(3) {
			line := ""
			if p.Below(12) == 0 {
				line = bad[p.Below(len(bad))]
			}
			l = slices.Insert(l, p.Below(len(l)+1), line)
		}
		text := strings.Join(l, "\n")
		if p.Below(3) == 0 {
			text = sample.Spoilt(&p, text, "\n\n  **tt0012349xrsw-+\r\t\x00\xff")
		}
		want, line, no := parsed(text)
		expect(t, text, want, line, no)
		whys[no]++
	}
	if whys[api.OK] < 5000 || whys[api.ErrForm] < 2000 {
		t.Error(whys)
	}
}

func TestPrint(t *testing.T) {
	for i, l := range sample.Schedules() {
		if text, why := script.Print(l); text != printed(l) || why != api.OK {
			t.Errorf("Print of list %d: %.100q, error %d", i, text, why)
		}
	}
	for text, e := range map[string]api.Event{
		"t0\n": sample.Turn(0, 1), "t3 * 2\n": sample.Turn(3, 2), "t1 * 4096\n": sample.Turn(1, 4096), "start\n": sample.Tasked(api.TaskStart, 0, 1), "start * 10\n": sample.Tasked(api.TaskStart, 0, 10),
		"scan 0\n": sample.Tasked(api.TaskScan, 0, 1), "scan 3 * 4\n": sample.Tasked(api.TaskScan, 3, 4), "work 0\n": sample.Tasked(api.TaskWork, 0, 1), "work 2 * 100\n": sample.Tasked(api.TaskWork, 2, 100),
		"finish\n": sample.Tasked(api.TaskFinish, 0, 1), "sweep * 9\n": sample.Tasked(api.TaskSweep, 0, 9), "run\n": sample.Tasked(api.TaskRun, 0, 1),
	} {
		if got, why := script.Print([]api.Event{e}); got != text || why != api.OK {
			t.Errorf("Print of %v: %q, error %d; want %q", e, got, why, text)
		}
	}
}

// 26.2

func TestFold(t *testing.T) {
	fewer, most := 0, 0
	for i, l := range sample.Schedules() {
		want := folded(l)
		if got, why := script.Fold(l); !same(got, want) || why != api.OK {
			t.Errorf("Fold of list %d: %v, error %d; want %v", i, got, why, want)
		}
		if len(want) < len(l) {
			fewer++
		}
		if slices.ContainsFunc(want, func(e api.Event) bool { return e.Times == 4096 }) {
			most++
		}
	}
	if fewer < 100 || most < 50 {
		t.Error(fewer, most)
	}
}

// TestFoldEdges: events are one as far as the Times may be; the rest follows, and goes on being added to.
func TestFoldEdges(t *testing.T) {
	all := func(times ...int) []api.Event {
		var out []api.Event
		for _, n := range times {
			out = append(out, sample.Turn(1, n))
		}
		return out
	}
	for _, x := range []struct{ l, want []api.Event }{
		{all(), all()}, {all(1), all(1)}, {all(4096), all(4096)}, {all(1, 1), all(2)}, {all(1, 2, 3), all(6)}, {all(4095, 1), all(4096)}, {all(4096, 1), all(4096, 1)}, {all(1, 4096), all(4096, 1)}, {all(4095, 2), all(4096, 1)},
		{all(4096, 4096), all(4096, 4096)}, {all(4096, 4096, 4096), all(4096, 4096, 4096)}, {all(4095, 4095), all(4096, 4094)}, {all(4095, 4095, 3), all(4096, 4096, 1)}, {all(2048, 2048, 2048, 2048), all(4096, 4096)}, {all(4096, 1, 1, 4095, 1), all(4096, 4096, 2)},
		{append(all(1, 1), sample.Turn(2, 1), sample.Turn(1, 1)), append(all(2), sample.Turn(2, 1), sample.Turn(1, 1))},
		{[]api.Event{sample.Tasked(api.TaskScan, 0, 1), sample.Tasked(api.TaskScan, 1, 1), sample.Tasked(api.TaskWork, 1, 1), sample.Turn(1, 1)}, []api.Event{sample.Tasked(api.TaskScan, 0, 1), sample.Tasked(api.TaskScan, 1, 1), sample.Tasked(api.TaskWork, 1, 1), sample.Turn(1, 1)}},
	} {
		if got, why := script.Fold(x.l); !same(got, x.want) || why != api.OK {
			t.Errorf("Fold of %v: %v, error %d; want %v", x.l, got, why, x.want)
		}
	}
}

func TestSpread(t *testing.T) {
	whys := map[api.Errno]int{}
	for i, l := range sample.Schedules() {
		want, no := spread(l)
		if got, why := script.Spread(l); !same(got, want) || why != no {
			t.Errorf("Spread of list %d: %d events, error %d; want %d, error %d", i, len(got), why, len(want), no)
		}
		whys[no]++
	}
	if whys[api.OK] < 50 || whys[api.ErrFull] < 50 {
		t.Error(whys)
	}
	for _, x := range []struct {
		times []int
		want  api.Errno
	}{{[]int{4096}, api.OK}, {[]int{4095, 1}, api.OK}, {[]int{4096, 1}, api.ErrFull}, {[]int{1, 4096}, api.ErrFull}, {[]int{2048, 2048}, api.OK}, {[]int{2048, 2049}, api.ErrFull}, {[]int{1, 1, 4094}, api.OK}, {slices.Repeat([]int{4096}, 4096), api.ErrFull}} {
		var l, want []api.Event
		for i, n := range x.times {
			l = append(l, sample.Turn(i%4, n))
			if x.want == api.OK {
				want = append(want, slices.Repeat([]api.Event{sample.Turn(i%4, 1)}, n)...)
			}
		}
		if got, why := script.Spread(l); !same(got, want) || why != x.want {
			t.Errorf("Spread of %d: %d events, error %d", x.times[:min(3, len(x.times))], len(got), why)
		}
	}
}

// 26.3

func TestSteps(t *testing.T) {
	p := sample.Picks(264)
	zero := 0
	for i, l := range sample.Schedules() {
		for _, of := range [][]api.Event{
			nil, {}, {sample.SomeEvent(&p, 4096)}, sample.SomeEvents(&p, 3, 9), sample.Singles(), sample.Singles()[:4], slices.Concat(sample.Singles(), sample.Singles()), {{}}, sample.BadEvents(), {sample.Turn(4, 1), sample.Tasked(api.TaskStart, 1, 1)},
		} {
			want := steps(l, of...)
			if n, why := script.Steps(l, of...); n != want || why != api.OK {
				t.Errorf("Steps of list %d, of %v: %d, error %d; want %d", i, of, n, why, want)
			}
			if want == 0 {
				zero++
			}
		}
	}
	if zero < 50 {
		t.Error(zero)
	}
	if n, why := script.Steps(slices.Repeat([]api.Event{sample.Turn(0, 4096)}, 4096)); n != 1<<24 || why != api.OK {
		t.Error(n, why)
	}
}

// TestStepsOf: the events to which others are alike need not be valid, their Times are no matter, and what is alike to several is counted once.
func TestStepsOf(t *testing.T) {
	l := sample.NineEvents()
	run := sample.Tasked(api.TaskRun, 0, 1)
	for _, x := range []struct {
		of   []api.Event
		want int
	}{
		{nil, 4110}, {[]api.Event{sample.Turn(0, 1)}, 4098}, {[]api.Event{sample.Turn(0, 0)}, 4098}, {[]api.Event{sample.Turn(0, math.MinInt)}, 4098}, {[]api.Event{sample.Turn(0, 5), sample.Turn(0, 7), sample.Turn(0, 5)}, 4098}, {[]api.Event{sample.Turn(1, 1)}, 0},
		{[]api.Event{sample.Tasked(api.TaskWork, 0, 3)}, 7}, {[]api.Event{sample.Tasked(api.TaskWork, 0, 0), sample.Tasked(api.TaskScan, 3, 5000), run}, 9}, {[]api.Event{sample.Tasked(api.TaskWork, 1, 7)}, 0}, {[]api.Event{sample.Tasked(api.TaskScan, 0, 1)}, 0},
		{[]api.Event{{}}, 0}, {[]api.Event{{}, run}, 1}, {[]api.Event{{Thread: true, Task: run.Task}}, 0}, {[]api.Event{{Who: 1, Task: run.Task}}, 0}, {[]api.Event{{Task: api.Task{Kind: api.TaskRun, Who: 1}}}, 0}, {[]api.Event{{Thread: true}, {Task: run.Task}}, 4099},
	} {
		if n, why := script.Steps(l, x.of...); n != x.want || why != api.OK {
			t.Errorf("Steps of %v: %d, error %d; want %d", x.of, n, why, x.want)
		}
	}
	// However many there are, they are gone through once.
	if n, why := script.Steps(slices.Repeat([]api.Event{run}, 4096), append(slices.Repeat([]api.Event{sample.Turn(9, 9)}, 1<<20), run)...); n != 4096 || why != api.OK {
		t.Error(n, why)
	}
}

// TestChapter: the chapter's own examples.
func TestChapter(t *testing.T) {
	l := sample.NineEvents()
	text, why := script.Print(l)
	if text != "t0\nt0 * 4095\nt0 * 2\nstart\nscan 3\nwork 0 * 7\nfinish\nsweep\nrun\n" || why != api.OK {
		t.Errorf("Print: %q, error %d", text, why)
	}
	expect(t, text, l, 0, api.OK)
	for _, line := range []string{"t4", "t0 * 1", "t0 * 0", "t00", "scan", "work 4", "run 0", "t0 * 4097", "t-1"} {
		expect(t, line, nil, 1, api.ErrForm)
	}
	got, why := script.Fold(l)
	if len(got) != 8 || got[0] != sample.Turn(0, 4096) || got[1] != sample.Turn(0, 2) || !same(got[2:], l[3:]) || why != api.OK {
		t.Error("Fold:", got, why)
	}
	if got, why := script.Spread(l); len(got) != 0 || why != api.ErrFull {
		t.Error("Spread:", got, why)
	}
	if got, why := script.Spread(l[3:]); len(got) != 12 || why != api.OK {
		t.Error("Spread:", got, why)
	}
	if n, why := script.Steps(l); n != 4110 || why != api.OK {
		t.Error("Steps:", n, why)
	}
	if n, why := script.Steps(l, sample.Tasked(api.TaskWork, 0, 1)); n != 7 || why != api.OK {
		t.Error("Steps:", n, why)
	}
	got, why = script.Fold([]api.Event{sample.Turn(0, 2), sample.Turn(0, 1), sample.Tasked(api.TaskScan, 1, 1)})
	if !same(got, []api.Event{sample.Turn(0, 3), sample.Tasked(api.TaskScan, 1, 1)}) || why != api.OK {
		t.Error("Fold:", got, why)
	}
}

// 26.5

// TestThereAndBack: Parse of Print returns the events.
func TestThereAndBack(t *testing.T) {
	for i, l := range sample.Schedules() {
		text, no := script.Print(l)
		if got, line, why := script.Parse(text); !same(got, l) || line != 0 || why != api.OK || no != api.OK {
			t.Errorf("list %d, %.100q: line %d, error %d", i, text, line, why)
		}
	}
}

// 26.6

// TestAsMany: Fold and Spread change no Steps, neither all nor those of one event; Fold of Fold, and of Spread, is Fold.
func TestAsMany(t *testing.T) {
	spreads := 0
	for i, l := range sample.Schedules() {
		all := [][]api.Event{}
		once, why := script.Fold(l)
		if twice, no := script.Fold(once); !same(twice, once) || why != api.OK || no != api.OK {
			t.Errorf("list %d: Fold of Fold: %v, error %d; want %v", i, twice, no, once)
		}
		all = append(all, once)
		if wide, why := script.Spread(l); why == api.OK {
			if folded, no := script.Fold(wide); !same(folded, once) || no != api.OK {
				t.Errorf("list %d: Fold of Spread: %v, error %d; want %v", i, folded, no, once)
			}
			all = append(all, wide)
			spreads++
		}
		for _, other := range all {
			for _, of := range append([][]api.Event{nil}, slices.Collect(slices.Chunk(sample.Singles(), 1))...) {
				want, _ := script.Steps(l, of...)
				if n, why := script.Steps(other, of...); n != want || why != api.OK {
					t.Errorf("list %d: Steps of %v: %d, error %d; want %d", i, of, n, why, want)
				}
			}
		}
	}
	if spreads < 50 {
		t.Error(spreads)
	}
}
