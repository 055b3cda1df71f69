package pace_test

import (
	"runtime"
	"testing"

	"besom/api"
	"besom/pace"
	"besom/sample"
)

// answer is what a call answers.
type answer struct {
	p    api.Pacer
	owed uint64
}

func (a answer) like(b answer) bool {
	return same(a.p, b.p) && a.owed == b.owed
}

func (a answer) twin() answer {
	return answer{sample.CopyPacer(a.p), a.owed}
}

// spoils are functions each of which changes one list of an answer, and what lies behind its end.
func (a answer) spoils() []func() {
	return sample.SpoilsOfPacer(a.p)
}

// calls are all calls that answer a pacer.
func calls() map[string]func(p api.Pacer) answer {
	begin := func(heap uint64) func(p api.Pacer) answer {
		return func(p api.Pacer) answer {
			out, _ := pace.Begin(p, heap)
			return answer{p: out}
		}
	}
	end := func(live uint64) func(p api.Pacer) answer {
		return func(p api.Pacer) answer {
			out, _ := pace.End(p, live)
			return answer{p: out}
		}
	}
	alloc := func(who int, words uint64) func(p api.Pacer) answer {
		return func(p api.Pacer) answer {
			out, owed, _ := pace.Alloc(p, who, words)
			return answer{out, owed}
		}
	}
	work := func(who int, steps ...uint64) func(p api.Pacer) answer {
		return func(p api.Pacer) answer {
			out, _ := pace.Work(p, who, steps...)
			return answer{p: out}
		}
	}
	return map[string]func(p api.Pacer) answer{
		"Make": func(p api.Pacer) answer {
			out, _ := pace.Make(50, 100, 3)
			return answer{p: out}
		},
		"Begin": begin(560), "Begin, too large": begin(most + 1), "End": end(300), "End, too large": end(most + 1),
		"Alloc": alloc(0, 3), "Alloc of nothing": alloc(0, 0), "Alloc, nobody": alloc(-1, 3), "Alloc, too large": alloc(0, 1<<20+1),
		"Work": work(0, 5, 6), "Work by nobody": work(-1, 5), "Work of nothing": work(0), "Work by none": work(4, 1), "Work, too large": work(0, 1, most+1),
	}
}

// arguments are pacers with which the calls succeed, and others with which they are refused.
func arguments() []api.Pacer {
	idle := sample.Idle(50, 100, 400, 2)
	return append(sample.Pacers(), idle, sample.Pacing(idle, 400, 40, 11, 42, 4, 3, 0), sample.Pacing(idle, 400, 40, 0, 42, 4, 3, 8, 0, 7))
}

// trial tries the calls with these arguments.
func trial() sample.Trial[api.Pacer, answer] {
	return sample.Trial[api.Pacer, answer]{
		Calls: calls(), Arguments: arguments(), Roomy: sample.RoomyPacer,
		SpoilsOf: sample.SpoilsOfPacer, Spoils: answer.spoils, Same: same, Like: answer.like, Twin: answer.twin,
	}
}

// 21.5

func TestNewMemory(t *testing.T) {
	for _, fault := range trial().Memory() {
		t.Error(fault)
	}
}

// TestSteps: the numbers that Work is given are neither changed nor kept.
func TestSteps(t *testing.T) {
	p := sample.Pacing(sample.Idle(50, 100, 400, 2), 400, 40, 0, 0, 0, 3, 4)
	for who := -1; who < 2; who++ {
		long := []uint64{1, 2, 3, 77}
		got, why := pace.Work(p, who, long[:3]...)
		want := sample.CopyPacer(got)
		if why != api.OK || long[0] != 1 || long[1] != 2 || long[2] != 3 || long[3] != 77 {
			t.Error(who, long, why)
		}
		clear(long)
		if !same(got, want) {
			t.Error(who, got)
		}
	}
	// They may be the debts themselves.
	want, _ := worked(p, 0, 3, 4)
	if got, why := pace.Work(p, 0, p.Debts...); !same(got, want) || p.Debts[0] != 3 || p.Debts[1] != 4 || why != api.OK {
		t.Error(got, p, why)
	}
}

// TestReaders: what only asks changes nothing.
func TestReaders(t *testing.T) {
	for i, start := range arguments() {
		p, rest := sample.RoomyPacer(start)
		pace.Check(p)
		pace.Goal(p)
		pace.Due(p, 540)
		if !same(p, start) || !rest() {
			t.Error(i, p)
		}
	}
}

// The document's rules

// TestNilIsEmpty: a nil list and an empty one are the same to every call (P1).
func TestNilIsEmpty(t *testing.T) {
	on := sample.Pacing(sample.Idle(50, 100, 400, 2), 400, 40, 11, 42, 4, 3, 0)
	for _, debts := range [][]uint64{nil, {}, make([]uint64, 0, 4)} {
		none := on
		none.Debts = debts
		if why := pace.Check(none); why != api.ErrForm {
			t.Error("Check:", why)
		}
		if got, why := pace.Work(none, -1); !same(got, api.Pacer{}) || why != api.ErrForm {
			t.Error("Work without mutators:", got, why)
		}
		for who := -1; who < 2; who++ {
			if got, why := pace.Work(on, who, debts...); !same(got, on) || why != api.OK {
				t.Error("Work of nothing:", who, got, why)
			}
		}
	}
}

// TestArgumentsAlone: the same arguments have the same answers, whatever came before and whatever room is behind them (P3).
func TestArgumentsAlone(t *testing.T) {
	for _, fault := range trial().Again() {
		t.Error(fault)
	}
}

// TestNoGoroutine: when a call has answered, no goroutine of it is left (P4).
func TestNoGoroutine(t *testing.T) {
	before := runtime.NumGoroutine()
	for _, p := range arguments() {
		for _, call := range calls() {
			call(p)
		}
		pace.Check(p)
		pace.Goal(p)
		pace.Due(p, 1)
	}
	// Fewer are no fault: the goroutine of an earlier test may have ended meanwhile.
	if after := runtime.NumGoroutine(); after > before {
		t.Errorf("%d goroutines, and %d before", after, before)
	}
}
