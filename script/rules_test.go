package script_test

import (
	"runtime"
	"slices"
	"testing"

	"besom/api"
	"besom/sample"
	"besom/script"
)

// roomy returns a list in memory that goes on behind its end, where a careless append would write to, and a function that reports whether what lies there is as it was.
func roomy(l []api.Event) ([]api.Event, func() bool) {
	last := sample.Turn(77, 77)
	long := append(slices.Clone(l), last)
	return long[:len(l)], func() bool { return long[len(l)] == last }
}

// spoilEvents changes a list, and all that lies behind its end.
func spoilEvents(l []api.Event) {
	for i := range l[:cap(l)] {
		l[:cap(l)][i] = sample.Turn(77, 77)
	}
}

// calls are the calls that answer events.
func calls() map[string]func(l []api.Event) ([]api.Event, api.Errno) {
	return map[string]func(l []api.Event) ([]api.Event, api.Errno){
		"Fold": script.Fold, "Spread": script.Spread,
		"Parse": func(l []api.Event) ([]api.Event, api.Errno) {
			text, _ := script.Print(l)
			got, _, why := script.Parse(text)
			return got, why
		},
	}
}

// 26.4

// TestNewMemory: a list that is handed in is neither changed nor kept, and what is answered is new memory each time.
func TestNewMemory(t *testing.T) {
	for name, call := range calls() {
		for i, start := range append(sample.Schedules(), sample.BadSchedules()[:50]...) {
			l, rest := roomy(start)
			first, why := call(l)
			second, _ := call(l)
			want := slices.Clone(second)
			if !same(l, start) || !rest() || !same(first, second) {
				t.Error(name, i, "changes the list")
			}
			spoilEvents(first)
			if !same(l, start) || !rest() || !same(second, want) {
				t.Error(name, i, "answers memory that is not new")
			}
			spoilEvents(l)
			if third, no := call(start); !same(second, want) || !same(third, want) || no != why {
				t.Error(name, i, "keeps the list")
			}
		}
	}
}

// TestReaders: what only asks changes nothing.
func TestReaders(t *testing.T) {
	for i, start := range append(sample.Schedules(), sample.BadSchedules()[:50]...) {
		l, rest := roomy(start)
		of, ofRest := roomy(sample.NineEvents())
		script.Check(l)
		script.Print(l)
		script.Steps(l)
		script.Steps(l, of...)
		if !same(l, start) || !rest() || !same(of, sample.NineEvents()) || !ofRest() {
			t.Error(i)
		}
	}
}

// The document's rules

// TestNilIsEmpty: a nil list and an empty one are the same to every call (P1).
func TestNilIsEmpty(t *testing.T) {
	for _, l := range [][]api.Event{nil, {}, make([]api.Event, 0, 8)} {
		if why := script.Check(l); why != api.OK {
			t.Error("Check:", why)
		}
		if text, why := script.Print(l); text != "" || why != api.OK {
			t.Error("Print:", text, why)
		}
		for name, call := range calls() {
			if got, why := call(l); len(got) != 0 || why != api.OK {
				t.Error(name, got, why)
			}
		}
		for _, of := range [][]api.Event{nil, {}, {sample.Turn(0, 1)}} {
			if n, why := script.Steps(l, of...); n != 0 || why != api.OK {
				t.Error("Steps:", n, why)
			}
		}
		if n, why := script.Steps(sample.NineEvents(), l...); n != 4110 || why != api.OK {
			t.Error("Steps of none:", n, why)
		}
	}
}

// TestArgumentsAlone: the same arguments have the same answers, whatever came before and whatever room is behind them (P3).
func TestArgumentsAlone(t *testing.T) {
	for i, start := range sample.Schedules() {
		text, _ := script.Print(start)
		steps, _ := script.Steps(start, sample.NineEvents()...)
		for name, call := range calls() {
			want, no := call(start)
			for range 3 {
				l, _ := roomy(start)
				if got, why := call(l); !same(got, want) || why != no {
					t.Error(name, i, why)
				}
			}
		}
		for range 3 {
			l, _ := roomy(start)
			if got, why := script.Print(l); got != text || why != api.OK {
				t.Error("Print:", i, why)
			}
			if n, why := script.Steps(l, sample.NineEvents()...); n != steps || why != api.OK {
				t.Error("Steps:", i, n, why)
			}
		}
	}
}

// TestNoGoroutine: when a call has answered, no goroutine of it is left (P4).
func TestNoGoroutine(t *testing.T) {
	before := runtime.NumGoroutine()
	for _, l := range sample.Schedules() {
		script.Check(l)
		script.Print(l)
		script.Steps(l, sample.NineEvents()...)
		for _, call := range calls() {
			call(l)
		}
	}
	// Fewer are no fault: the goroutine of an earlier test may have ended meanwhile.
	if after := runtime.NumGoroutine(); after > before {
		t.Errorf("%d goroutines, and %d before", after, before)
	}
}
