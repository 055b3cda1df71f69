package asm_test

import (
	"runtime"
	"slices"
	"strconv"
	"testing"

	"besom/api"
	"besom/asm"
	"besom/sample"
)

func itoa(n int) string {
	return strconv.Itoa(n)
}

// roomy returns a program in memory that goes on behind its end, where a careless append would write to, and a function that reports whether what lies there is as it was.
func roomy(l []api.Instr) ([]api.Instr, func() bool) {
	last := api.Instr{Kind: 77, To: 77}
	long := append(slices.Clone(l), last)
	return long[:len(l)], func() bool { return long[len(l)] == last }
}

// 24.4

// TestProgramsUnchanged: a program that is handed in is neither changed nor kept.
func TestProgramsUnchanged(t *testing.T) {
	for i, start := range append(sample.Programs(), sample.BadPrograms()[:50]...) {
		l, rest := roomy(start)
		asm.Check(l)
		text, why := asm.Print(l)
		asm.Count(l, api.InstrDo, api.InstrHalt)
		if !same(l, start) || !rest() {
			t.Error(i, "changes")
		}
		clear(l)
		if again, no := asm.Print(start); again != text || no != why {
			t.Error(i, "is kept")
		}
	}
}

// TestKinds: the kinds that Count is given are neither changed nor kept.
func TestKinds(t *testing.T) {
	kinds := []api.InstrKind{api.InstrJump, api.InstrDo, api.InstrJump, 77}
	for range 2 {
		if n, why := asm.Count(sample.FiveInstrs(), kinds[:3]...); n != 4 || why != api.OK {
			t.Error(n, why)
		}
	}
	if !slices.Equal(kinds, []api.InstrKind{api.InstrJump, api.InstrDo, api.InstrJump, 77}) {
		t.Error(kinds)
	}
}

// TestParseMemory: what Parse answers is new memory each time.
func TestParseMemory(t *testing.T) {
	for i, l := range sample.Programs() {
		text, _ := asm.Print(l)
		first, _, _ := asm.Parse(text)
		second, _, _ := asm.Parse(text)
		for k := range first[:cap(first)] {
			first[:cap(first)][k] = api.Instr{Kind: 77}
		}
		third, _, why := asm.Parse(text)
		if !same(second, l) || !same(third, l) || why != api.OK {
			t.Error(i, second, third, why)
		}
	}
}

// The document's rules

// TestNilIsEmpty: a nil list and an empty one are the same to every call (P1).
func TestNilIsEmpty(t *testing.T) {
	for _, l := range [][]api.Instr{nil, {}, make([]api.Instr, 0, 8)} {
		if why := asm.Check(l); why != api.OK {
			t.Error("Check:", why)
		}
		if text, why := asm.Print(l); text != "" || why != api.OK {
			t.Error("Print:", text, why)
		}
		if n, why := asm.Count(l, api.InstrNone, api.InstrDo); n != 0 || why != api.OK {
			t.Error("Count:", n, why)
		}
	}
	for _, kinds := range [][]api.InstrKind{nil, {}} {
		if n, why := asm.Count(sample.FiveInstrs(), kinds...); n != 0 || why != api.OK {
			t.Error("Count of no kinds:", n, why)
		}
	}
}

// TestArgumentsAlone: the same arguments have the same answers, whatever came before and whatever room is behind them (P3).
func TestArgumentsAlone(t *testing.T) {
	for i, start := range sample.Programs() {
		want, _ := asm.Print(start)
		for range 3 {
			l, _ := roomy(start)
			if text, why := asm.Print(l); text != want || why != api.OK {
				t.Error("Print:", i, text, why)
			}
			if why := asm.Check(l); why != api.OK {
				t.Error("Check:", i, why)
			}
		}
	}
	// Many labels that there are not: the first line that goes to one is told each time.
	text := "gc\n"
	for i := range 200 {
		text += "jump a" + itoa(i*7%200) + "\n"
	}
	for range 20 {
		expect(t, text, nil, 2, api.ErrNone)
	}
}

// TestNoGoroutine: when a call has answered, no goroutine of it is left (P4).
func TestNoGoroutine(t *testing.T) {
	before := runtime.NumGoroutine()
	for _, l := range sample.Programs() {
		text, _ := asm.Print(l)
		asm.Parse(text)
		asm.Check(l)
		asm.Count(l, api.InstrDo)
	}
	asm.Line(api.Instr{Kind: api.InstrHalt})
	// Fewer are no fault: the goroutine of an earlier test may have ended meanwhile.
	if after := runtime.NumGoroutine(); after > before {
		t.Errorf("%d goroutines, and %d before", after, before)
	}
}
