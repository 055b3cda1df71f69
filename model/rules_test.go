package model_test

import (
	"math"
	"runtime"
	"slices"
	"testing"

	"besom/api"
	"besom/model"
	"besom/sample"
)

type call func(s scene) api.Fate

// calls are all calls that answer lists.
func calls() map[string]call {
	fate := func(s scene) api.Fate {
		f, _ := model.Fate(s.h, s.roots, s.t, s.l)
		return f
	}
	return map[string]call{
		"Reach": func(s scene) api.Fate {
			l, _ := model.Reach(s.h, s.roots, s.t)
			return api.Fate{Live: l}
		},
		"Fate": fate,
		"Fate without finalizers": func(s scene) api.Fate {
			s.l = slices.DeleteFunc(slices.Clone(s.l), func(x api.Special) bool { return x.Kind == api.SpecialFinal })
			return fate(s)
		},
		"Fate without specials": func(s scene) api.Fate {
			s.l = nil
			return fate(s)
		},
	}
}

// busy is a scene of whose objects some are live, some are kept for finalizers, and some have cleanups that are run.
func busy() scene {
	s := chapter()
	s.roots = []uint64{32, 0}
	s.l = []api.Special{sample.Cleanup(16, 1), sample.Final(24, 2), sample.Cleanup(24, 3), sample.Final(28, 4), sample.Final(32, 5)}
	return s
}

// roomy returns the scene in memory that goes on behind its lists, where a careless append would write to. The rest is what lies there.
func roomy(s scene) (out scene, rest func() bool) {
	out = copyScene(s)
	words, roots := append(out.h.Arena.Words, 77), append(out.roots, 77)
	slots, l := append(out.t.Slots, api.EphSlot{Key: 77}), append(out.l, sample.Final(77, 77))
	spans := append(out.h.Spans, sample.Span(77, 1, 4, 0, 0))
	n, m := len(out.roots), len(out.l)
	out.h.Arena.Words, out.roots, out.t.Slots, out.l = words[:len(words)-1], roots[:n], slots[:len(slots)-1], l[:m]
	out.h.Spans = spans[:len(spans)-1]
	return out, func() bool {
		return words[len(words)-1] == 77 && roots[n] == 77 && slots[len(slots)-1].Key == 77 && l[m] == sample.Final(77, 77) && spans[len(spans)-1].First == 77
	}
}

// spoil changes all that an answer has, and all that lies behind its ends.
func spoil(f api.Fate) {
	for _, l := range [][]uint64{f.Live, f.Kept} {
		for i := range l[:cap(l)] {
			l[:cap(l)][i] += 1000
		}
	}
	for _, l := range [][]api.Special{f.Finals, f.Cleans} {
		for i := range l[:cap(l)] {
			l[:cap(l)][i].Tag += 1000
		}
	}
}

// spoilScene changes all that a scene has.
func spoilScene(s scene) {
	clear(s.h.Arena.Words)
	clear(s.h.Spans)
	spoil(api.Fate{Live: s.roots, Finals: s.l})
	clear(s.t.Slots)
}

// 11.3

func TestNewMemory(t *testing.T) {
	for name, call := range calls() {
		s, rest := roomy(busy())
		first := call(s)
		if !sameScenes(s, busy()) || !rest() {
			t.Error(name, "changes an argument")
		}
		second := call(s)
		if len(second.Live) == 0 {
			t.Error(name, "answers nothing")
		}
		kept := copyFate(second)
		spoil(first)
		if !sameScenes(s, busy()) || !rest() {
			t.Error(name, "answers an argument's memory")
		}
		if !same(second, kept) {
			t.Error(name, "answers the same memory twice")
		}
		spoilScene(s)
		if !same(second, kept) {
			t.Error(name, "keeps an argument's memory")
		}
	}
}

// TestListsApart: no two lists of an answer share memory, not even behind their ends, even if one has what the other has.
func TestListsApart(t *testing.T) {
	for name, call := range calls() {
		f := call(busy())
		for i, part := range []api.Fate{{Live: f.Live}, {Kept: f.Kept}, {Finals: f.Finals}, {Cleans: f.Cleans}} {
			want := copyFate(f)
			spoil(part)
			switch i {
			case 0:
				want.Live = f.Live
			case 1:
				want.Kept = f.Kept
			case 2:
				want.Finals = f.Finals
			case 3:
				want.Cleans = f.Cleans
			}
			if !same(f, want) {
				t.Error(name, "answers two lists that share memory")
			}
		}
	}
}

// TestAnswersApart: a change of what a call answers does not change its arguments, whichever they are, those that are refused too.
func TestAnswersApart(t *testing.T) {
	for i, s := range append(scenes(80), deadScenes()[:80]...) {
		want := copyScene(s)
		for name, call := range calls() {
			spoil(call(s))
			if !sameScenes(s, want) {
				t.Fatal(name, "of scene", i, "shares memory with its arguments")
			}
		}
	}
}

func TestAlikeChangesNothing(t *testing.T) {
	a, b := fate(busy()), fate(chapter())
	model.Alike(a, b)
	if !same(a, fate(busy())) || !same(b, fate(chapter())) {
		t.Error(a, b)
	}
}

// The document's rules

// TestNilIsEmpty: a nil list and an empty one are the same to every call (P1).
func TestNilIsEmpty(t *testing.T) {
	h := sample.SixObjects()
	for _, roots := range [][]uint64{nil, {}, make([]uint64, 0, 4)} {
		for _, slots := range [][]api.EphSlot{nil, {}, make([]api.EphSlot, 0, 8)} {
			for _, l := range [][]api.Special{nil, {}, make([]api.Special, 0, 4)} {
				s := scene{h, roots, api.Ephem{Slots: slots}, l}
				if got, why := model.Reach(s.h, s.roots, s.t); len(got) != 0 || why != api.OK {
					t.Error("Reach:", got, why)
				}
				if got, why := model.Fate(s.h, s.roots, s.t, s.l); !same(got, api.Fate{}) || why != api.OK {
					t.Error("Fate:", got, why)
				}
				s.roots = append(s.roots, 16)
				if got, why := model.Fate(s.h, s.roots, s.t, s.l); !same(got, api.Fate{Live: []uint64{16, 20}, Kept: []uint64{16, 20}}) || why != api.OK {
					t.Error("Fate from a root:", got, why)
				}
			}
		}
	}
	none := sample.Heap(1, nil)
	none.Spans = []api.Span{}
	if got, why := model.Reach(none, []uint64{0}, api.Ephem{}); len(got) != 0 || why != api.OK {
		t.Error("Reach without objects:", got, why)
	}
	for _, addr := range []uint64{1, 16, math.MaxUint64} {
		if got, why := model.Reach(none, []uint64{addr}, api.Ephem{}); len(got) != 0 || why != api.ErrDead {
			t.Error("Reach without objects:", addr, got, why)
		}
	}
}

// TestArgumentsAlone: the same arguments have the same answers, whatever came before and whatever room is behind them (P3).
func TestArgumentsAlone(t *testing.T) {
	for name, call := range calls() {
		want := call(busy())
		s, _ := roomy(busy())
		if got := call(s); !same(got, want) {
			t.Error(name, "of a roomy scene:", got, want)
		}
		for range 20 {
			if got := call(busy()); !same(got, want) {
				t.Error(name, "once more:", got, want)
			}
		}
	}
}

// TestNoGoroutine: when a call has answered, no goroutine of it is left (P4).
func TestNoGoroutine(t *testing.T) {
	before := runtime.NumGoroutine()
	for _, call := range calls() {
		call(busy())
	}
	model.Alike(fate(busy()), fate(chapter()))
	// Fewer are no fault: the goroutine of an earlier test may have ended meanwhile.
	if after := runtime.NumGoroutine(); after > before {
		t.Errorf("%d goroutines, and %d before", after, before)
	}
}
