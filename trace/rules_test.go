package trace_test

import (
	"runtime"
	"slices"
	"testing"

	"besom/api"
	"besom/sample"
	"besom/trace"
	"besom/vm"
)

// answer is what a call answers.
type answer struct {
	v     api.Vm
	notes []api.Note
	n     int
}

func (a answer) like(b answer) bool {
	return same(a.v, b.v) && slices.Equal(a.notes, b.notes) && a.n == b.n
}

func (a answer) twin() answer {
	return answer{sample.CopyVm(a.v), slices.Clone(a.notes), a.n}
}

// spoils are functions each of which changes one list of an answer, and what lies behind its end.
func (a answer) spoils() []func() {
	return append(sample.SpoilsOfVm(a.v), sample.SpoilNotes(a.notes))
}

// calls are the calls that answer a machine, those among them that are refused too.
func calls() map[string]func(v api.Vm) answer {
	record := func(l ...api.Event) func(v api.Vm) answer {
		return func(v api.Vm) answer {
			out, notes, _ := trace.Record(v, l...)
			return answer{v: out, notes: notes}
		}
	}
	// replay replays the notes of the five events, the one at i with another checksum.
	replay := func(i int) func(v api.Vm) answer {
		return func(v api.Vm) answer {
			_, notes, _ := recorded(v, sample.FiveEvents())
			if i < len(notes) {
				notes[i].Sum++
			}
			out, n, _ := trace.Replay(v, notes...)
			return answer{v: out, n: n}
		}
	}
	refused := sample.Turn(9, 1)
	return map[string]func(v api.Vm) answer{
		"Record of nothing": record(), "Record of five": record(sample.FiveEvents()...), "Record of none": record(refused), "Record of some": record(refused, sample.Turn(0, 1), refused),
		"Record of runs": record(slices.Repeat([]api.Event{sample.Tasked(api.TaskRun, 0, 1)}, 3)...), "Record of too many": record(sample.Turn(0, 2)),
		"Replay of five": replay(5), "Replay of two": replay(2), "Replay of none": replay(0),
		"Replay of nothing": func(v api.Vm) answer {
			out, n, _ := trace.Replay(v)
			return answer{v: out, n: n}
		},
		"Replay of too many": func(v api.Vm) answer {
			out, n, _ := trace.Replay(v, make([]api.Note, 4097)...)
			return answer{v: out, n: n}
		},
	}
}

// arguments are machines in which much happens.
func arguments() []api.Vm {
	idle := sample.ThreeLists()
	idle.Gc.Table, idle.Gc.Weak = sample.Pairs(8, 16, 20, 18, 16), []uint64{20, 16}
	idle.Gc.Queue = []api.Item{sample.FinalItem(20, 1), sample.CleanItem(2), sample.FinalItem(18, 4)}
	halted := api.Thread{Code: sample.FiveInstrs(), Pc: 2, Halted: true, Err: api.ErrNil}
	return []api.Vm{
		sample.NewVm(), sample.Vm(idle, []api.Thread{{Code: sample.SumProgram(), Pc: 3}, {Code: sample.WrongProgram()}}, sample.SomeRans(9)...),
		sample.Vm(idle, []api.Thread{{Code: sample.WrongProgram()}, halted}, sample.SomeRans(20)...), sample.Vm(sample.BusyRuntime(), make([]api.Thread, 3), sample.SomeRans(5)...),
		sample.Vm(sample.Runtime(sample.ThreeLarge(), sample.Mutator()), []api.Thread{{Code: sample.WrongProgram(), Pc: 1}}),
	}
}

// trial tries the calls with these arguments.
func trial() sample.Trial[api.Vm, answer] {
	return sample.Trial[api.Vm, answer]{
		Calls: calls(), Arguments: arguments(), Roomy: sample.RoomyVm,
		SpoilsOf: sample.SpoilsOfVm, Spoils: answer.spoils, Same: same, Like: answer.like, Twin: answer.twin,
	}
}

// 28.4

func TestNewMemory(t *testing.T) {
	some := trial()
	some.Arguments = append(some.Arguments, sample.SomeVms(338, 20)...)
	for _, fault := range some.Memory() {
		t.Error(fault)
	}
}

// TestListsApart: no two lists of an answer share memory, not even behind their ends, whether or not those of the argument do.
func TestListsApart(t *testing.T) {
	for _, fault := range trial().Lists(sample.WovenVms()...) {
		t.Error(fault)
	}
}

// TestOthersUnchanged: events and notes that are handed in are neither changed nor kept, nor is what lies behind their ends.
func TestOthersUnchanged(t *testing.T) {
	v := sample.NewVm()
	events := append(make([]api.Event, 0, 20), sample.FiveEvents()...)
	last := events[len(events):cap(events)]
	last[0] = sample.Turn(77, 77)
	got, notes, _ := trace.Record(v, events...)
	want, list := sample.CopyVm(got), slices.Clone(notes)
	if !slices.Equal(events, sample.FiveEvents()) || last[0] != sample.Turn(77, 77) {
		t.Error(events, last[0])
	}
	clear(events)
	if !same(got, want) || !slices.Equal(notes, list) {
		t.Error("the events are kept")
	}
	for i := range 6 {
		start := slices.Clone(list)
		if i < 5 {
			start[i].Err++
		}
		l, rest := sample.RoomyNotes(start)
		got, _, _ := trace.Replay(v, l...)
		want := sample.CopyVm(got)
		if !slices.Equal(l, start) || !rest() {
			t.Error(i, "Replay changes the notes")
		}
		clear(l)
		if !same(got, want) {
			t.Error(i, "Replay keeps the notes")
		}
	}
}

// TestNotesUnchanged: lists of notes that are handed in are not changed, and what Decode answers is new each time.
func TestNotesUnchanged(t *testing.T) {
	lists := append(sample.NoteLists()[:60], sample.BadNoteLists()[5:60]...)
	for i, start := range lists {
		l, rest := sample.RoomyNotes(start)
		s, _ := trace.Encode(l)
		trace.Apart(l, l)
		trace.Apart(l, lists[(i+1)%len(lists)])
		if !slices.Equal(l, start) || !rest() {
			t.Error("list", i, "changes")
		}
		first, _ := trace.Decode(s)
		second, _ := trace.Decode(s)
		want := slices.Clone(second)
		sample.SpoilNotes(first)()
		if third, _ := trace.Decode(s); !slices.Equal(second, want) || !slices.Equal(third, want) {
			t.Error("list", i, "is answered in the same memory twice")
		}
	}
}

// TestReaders: what only asks changes nothing.
func TestReaders(t *testing.T) {
	for i, start := range arguments() {
		v, rest := sample.RoomyVm(start)
		trace.Sum(v)
		if !same(v, start) || !rest() {
			t.Error(i, v)
		}
	}
}

// The document's rules

// TestNilIsEmpty: a nil list and an empty one are the same to every call (P1).
func TestNilIsEmpty(t *testing.T) {
	for _, phase := range []api.Phase{api.PhaseIdle, api.PhaseMark, api.PhaseLate, api.PhaseSweep} {
		nils, empties := sample.BareVms(phase)
		a, why := trace.Sum(nils)
		b, no := trace.Sum(empties)
		if a != b || why != api.OK || no != api.OK {
			t.Error("phase", phase, a, b, why, no)
		}
		for name, call := range calls() {
			if a, b := call(nils), call(empties); !a.like(b) || len(a.v.Threads) == 0 {
				t.Error(name, a, b)
			}
		}
	}
	v := sample.NewVm()
	for _, l := range [][]api.Event{nil, {}} {
		if got, notes, why := trace.Record(v, l...); !same(got, v) || len(notes) != 0 || why != api.OK {
			t.Error(notes, why)
		}
	}
	for _, l := range [][]api.Note{nil, {}} {
		if got, n, why := trace.Replay(v, l...); !same(got, v) || n != 0 || why != api.OK {
			t.Error(n, why)
		}
		if s, why := trace.Encode(l); s != "" || why != api.OK {
			t.Error(s, why)
		}
		for _, other := range [][]api.Note{nil, {}} {
			if at, why := trace.Apart(l, other); at != 0 || why != api.ErrNone {
				t.Error(at, why)
			}
		}
	}
	if l, why := trace.Decode(""); len(l) != 0 || why != api.OK {
		t.Error(l, why)
	}
}

// TestArgumentsAlone: the same arguments have the same answers, whatever came before and whatever room is behind them (P3).
func TestArgumentsAlone(t *testing.T) {
	for _, fault := range trial().Again() {
		t.Error(fault)
	}
	for i, v := range arguments() {
		roomy, _ := sample.RoomyVm(v)
		want, _ := trace.Sum(v)
		for range 3 {
			if got, why := trace.Sum(roomy); got != want || why != api.OK {
				t.Error(i, got, want, why)
			}
		}
	}
}

// TestNoGoroutine: when a call has answered, no goroutine of it is left (P4).
func TestNoGoroutine(t *testing.T) {
	before := runtime.NumGoroutine()
	for _, v := range arguments() {
		for _, call := range calls() {
			call(v)
		}
		trace.Sum(v)
		if why := vm.Check(v); why != api.OK {
			t.Error(why)
		}
	}
	for _, l := range sample.NoteLists()[:50] {
		s, _ := trace.Encode(l)
		trace.Decode(s)
		trace.Apart(l, l)
	}
	// Fewer are no fault: the goroutine of an earlier test may have ended meanwhile.
	if after := runtime.NumGoroutine(); after > before {
		t.Errorf("%d goroutines, and %d before", after, before)
	}
}
