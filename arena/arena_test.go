package arena_test

import (
	"math"
	"runtime"
	"slices"
	"testing"

	"besom/api"
	"besom/arena"
)

const top = math.MaxUint64

// far are indices that no arena has, or that a careless sum or conversion wraps round.
var far = []uint64{16385, 1 << 31, 1 << 32, 1 << 58, 1<<61 + 1, 1<<63 - 1, 1 << 63, 1<<63 + 1, top - 4, top - 1, top}

// chapter is the arena of the chapter's examples.
func chapter() api.Arena {
	return api.Arena{Words: []uint64{0, 7, 0, 0, 9}}
}

// long is an arena of n words, no two of them alike, and none 0.
func long(n int) api.Arena {
	a := api.Arena{Words: make([]uint64, n)}
	for i := range a.Words {
		a.Words[i] = 1<<63 + uint64(i)
	}
	return a
}

func same(a, b api.Arena) bool {
	return slices.Equal(a.Words, b.Words)
}

func changed(a api.Arena, change func(words []uint64)) api.Arena {
	words := slices.Clone(a.Words)
	change(words)
	return api.Arena{Words: words}
}

func exists(a api.Arena, from, n int) bool {
	return from+n <= len(a.Words)
}

// 2.1

func TestCheck(t *testing.T) {
	for n, want := range map[int]api.Errno{0: api.OK, 1: api.OK, 5: api.OK, 16383: api.OK, 16384: api.OK, 16385: api.ErrForm, 32768: api.ErrForm} {
		if why := arena.Check(long(n)); why != want {
			t.Errorf("Check of %d words: error %d", n, why)
		}
	}
	if why := arena.Check(api.Arena{Words: make([]uint64, 5, 16385)}); why != api.OK {
		t.Error("Check of 5 words with room behind them: error", why)
	}
}

func TestMake(t *testing.T) {
	for _, n := range []int{0, 1, 5, 16, 16383, 16384} {
		a, why := arena.Make(n)
		if why != api.OK || len(a.Words) != n || slices.ContainsFunc(a.Words, func(w uint64) bool { return w != 0 }) {
			t.Errorf("Make(%d): %d words, error %d", n, len(a.Words), why)
		}
	}
	for _, n := range []int{math.MinInt, math.MinInt + 1, -16384, -1, 16385, 1 << 32, math.MaxInt} {
		if a, why := arena.Make(n); why != api.ErrRange || len(a.Words) != 0 {
			t.Errorf("Make(%d): %d words, error %d", n, len(a.Words), why)
		}
	}
}

func TestLoad(t *testing.T) {
	for _, a := range []api.Arena{{}, long(1), chapter(), long(16384)} {
		for i, want := range a.Words {
			if w, why := arena.Load(a, uint64(i)); w != want || why != api.OK {
				t.Errorf("Load(%d) of %d words: %d, error %d", i, len(a.Words), w, why)
			}
		}
		size := uint64(len(a.Words))
		for _, i := range append(slices.Clone(far), size, size+1) {
			if w, why := arena.Load(a, i); w != 0 || why != api.ErrRange {
				t.Errorf("Load(%d) of %d words: %d, error %d", i, size, w, why)
			}
		}
	}
}

func TestStore(t *testing.T) {
	for _, a := range []api.Arena{{}, long(1), chapter(), long(100)} {
		for _, w := range []uint64{0, 1, 1 << 63, top} {
			for i := range a.Words {
				want := changed(a, func(words []uint64) { words[i] = w })
				if b, why := arena.Store(a, uint64(i), w); why != api.OK || !same(b, want) {
					t.Errorf("Store(%d, %d) of %d words: %v, error %d", i, w, len(a.Words), b, why)
				}
			}
			size := uint64(len(a.Words))
			for _, i := range append(slices.Clone(far), size, size+1) {
				if b, why := arena.Store(a, i, w); why != api.ErrRange || !same(b, a) {
					t.Errorf("Store(%d, %d) of %d words: %v, error %d", i, w, size, b, why)
				}
			}
		}
	}
	b, why := arena.Store(long(16384), 16383, 5)
	if why != api.OK || len(b.Words) != 16384 || b.Words[16383] != 5 || b.Words[16382] != 1<<63+16382 {
		t.Error("Store into the last word of 16384: error", why)
	}
}

func TestChapterArenaIsMadeByStore(t *testing.T) {
	a, why := arena.Make(5)
	a, also := arena.Store(a, 1, 7)
	a, too := arena.Store(a, 4, 9)
	if why != api.OK || also != api.OK || too != api.OK || !same(a, chapter()) {
		t.Error(a, why, also, too)
	}
	if w, why := arena.Load(a, 1); w != 7 || why != api.OK {
		t.Error("Load:", w, why)
	}
}

func TestInvalidComesFirst(t *testing.T) {
	for _, a := range []api.Arena{long(16385), long(40000)} {
		for _, i := range append(slices.Clone(far), 0, 1, 16384) {
			if w, why := arena.Load(a, i); w != 0 || why != api.ErrForm {
				t.Error("Load:", i, w, why)
			}
			if b, why := arena.Store(a, i, 1); len(b.Words) != 0 || why != api.ErrForm {
				t.Error("Store:", i, len(b.Words), why)
			}
			if w, why := arena.Sum(a, 0, i); w != 0 || why != api.ErrForm {
				t.Error("Sum:", i, w, why)
			}
			for _, n := range []uint64{0, 1, 16384, 16386, top} {
				if b, why := arena.Clear(a, i, n); len(b.Words) != 0 || why != api.ErrForm {
					t.Error("Clear:", i, n, len(b.Words), why)
				}
				if b, why := arena.Move(a, i, 0, n); len(b.Words) != 0 || why != api.ErrForm {
					t.Error("Move to", i, n, len(b.Words), why)
				}
				if b, why := arena.Move(a, 0, i, n); len(b.Words) != 0 || why != api.ErrForm {
					t.Error("Move from", i, n, len(b.Words), why)
				}
			}
		}
		if w, why := arena.Sum(a); w != 0 || why != api.ErrForm {
			t.Error("Sum of nothing:", w, why)
		}
	}
}

// 2.2

func TestClear(t *testing.T) {
	for _, a := range []api.Arena{{}, long(1), chapter(), long(20)} {
		for from := 0; from <= len(a.Words)+1; from++ {
			for n := 0; n <= len(a.Words)+1; n++ {
				want, wrong := a, api.ErrRange
				if exists(a, from, n) {
					wrong = api.OK
					want = changed(a, func(words []uint64) {
						for i := range n {
							words[from+i] = 0
						}
					})
				}
				if b, why := arena.Clear(a, uint64(from), uint64(n)); why != wrong || !same(b, want) {
					t.Errorf("Clear(%d, %d) of %d words: %v, error %d", from, n, len(a.Words), b, why)
				}
			}
		}
	}
	b, why := arena.Clear(chapter(), 0, 5)
	if why != api.OK || !same(b, api.Arena{Words: make([]uint64, 5)}) {
		t.Error("Clear of the chapter's arena:", b, why)
	}
	b, why = arena.Clear(long(16384), 0, 16384)
	if why != api.OK || !same(b, api.Arena{Words: make([]uint64, 16384)}) {
		t.Error("Clear of 16384 words: error", why)
	}
}

func TestClearFarAway(t *testing.T) {
	a := long(5)
	for _, i := range far {
		for _, x := range [][2]uint64{{i, 0}, {i, 1}, {0, i}, {5, i}, {1, i}, {i, -i}, {i, 1 - i}, {i, 5 - i}, {i, i}} {
			if b, why := arena.Clear(a, x[0], x[1]); why != api.ErrRange || !same(b, a) {
				t.Errorf("Clear(%d, %d): %v, error %d", x[0], x[1], b, why)
			}
		}
	}
}

func TestMove(t *testing.T) {
	for _, a := range []api.Arena{{}, long(1), chapter(), long(9)} {
		size := len(a.Words)
		for to := 0; to <= size+1; to++ {
			for from := 0; from <= size+1; from++ {
				for n := 0; n <= size+1; n++ {
					want, wrong := a, api.ErrRange
					if exists(a, to, n) && exists(a, from, n) {
						wrong = api.OK
						want = changed(a, func(words []uint64) {
							for i := range n {
								words[to+i] = a.Words[from+i]
							}
						})
					}
					if b, why := arena.Move(a, uint64(to), uint64(from), uint64(n)); why != wrong || !same(b, want) {
						t.Errorf("Move(%d, %d, %d) of %d words: %v, error %d", to, from, n, size, b, why)
					}
				}
			}
		}
	}
}

func TestMoveFarAway(t *testing.T) {
	a := long(5)
	for _, i := range far {
		for _, x := range [][3]uint64{{i, 0, 0}, {0, i, 0}, {0, 0, i}, {5, 5, i}, {i, 0, 1}, {0, i, 1}, {i, 0, -i}, {0, i, -i}, {i, 0, 1 - i}, {0, i, 1 - i}, {i, 0, 5 - i}, {0, i, 5 - i}, {i, i, -i}, {i, i, 0}, {i, i, i}} {
			if b, why := arena.Move(a, x[0], x[1], x[2]); why != api.ErrRange || !same(b, a) {
				t.Errorf("Move(%d, %d, %d): %v, error %d", x[0], x[1], x[2], b, why)
			}
		}
	}
}

func TestMoveExamples(t *testing.T) {
	for _, x := range []struct {
		words       []uint64
		to, from, n uint64
		want        []uint64
		why         api.Errno
	}{
		{[]uint64{0, 7, 0, 0, 9}, 0, 1, 4, []uint64{7, 0, 0, 9, 9}, api.OK},
		{[]uint64{0, 7, 0, 0, 9}, 5, 0, 0, []uint64{0, 7, 0, 0, 9}, api.OK},
		{[]uint64{0, 7, 0, 0, 9}, 0, 0, 5, []uint64{0, 7, 0, 0, 9}, api.OK},
		{[]uint64{0, 7, 0, 0, 9}, 0, 0, 6, []uint64{0, 7, 0, 0, 9}, api.ErrRange},
		{[]uint64{0, 7, 0, 0, 9}, 6, 0, 0, []uint64{0, 7, 0, 0, 9}, api.ErrRange},
		{[]uint64{0, 7, 0, 0, 9}, 0, 6, 0, []uint64{0, 7, 0, 0, 9}, api.ErrRange},
		{[]uint64{1, 2, 3, 0}, 1, 0, 2, []uint64{1, 1, 2, 0}, api.OK},
	} {
		b, why := arena.Move(api.Arena{Words: x.words}, x.to, x.from, x.n)
		if why != x.why || !slices.Equal(b.Words, x.want) {
			t.Errorf("Move(%d, %d, %d) of %v: %v, error %d", x.to, x.from, x.n, x.words, b, why)
		}
	}
}

func TestSum(t *testing.T) {
	for _, x := range []struct {
		words []uint64
		parts []uint64
		want  uint64
		why   api.Errno
	}{
		{[]uint64{0, 7, 0, 0, 9}, []uint64{1, 4, 4}, 25, api.OK},
		{[]uint64{0, 7, 0, 0, 9}, []uint64{4, 1, 4}, 25, api.OK},
		{[]uint64{0, 7, 0, 0, 9}, []uint64{0, 1, 2, 3, 4}, 16, api.OK},
		{[]uint64{0, 7, 0, 0, 9}, []uint64{4}, 9, api.OK},
		{[]uint64{0, 7, 0, 0, 9}, nil, 0, api.OK},
		{nil, nil, 0, api.OK},
		{nil, []uint64{0}, 0, api.ErrRange},
		{[]uint64{0, 7, 0, 0, 9}, []uint64{5}, 0, api.ErrRange},
		{[]uint64{0, 7, 0, 0, 9}, []uint64{1, 4, 5}, 0, api.ErrRange},
		{[]uint64{0, 7, 0, 0, 9}, []uint64{5, 1, 4}, 0, api.ErrRange},
		{[]uint64{0, 7, 0, 0, 9}, []uint64{1, 1 << 63, 4}, 0, api.ErrRange},
		{[]uint64{0, 7, 0, 0, 9}, []uint64{1, top}, 0, api.ErrRange},
		{[]uint64{top, 3}, []uint64{0, 1}, 2, api.OK},
		{[]uint64{top}, []uint64{0, 0, 0}, top - 2, api.OK},
		{[]uint64{1 << 63}, []uint64{0, 0}, 0, api.OK},
	} {
		if w, why := arena.Sum(api.Arena{Words: x.words}, x.parts...); w != x.want || why != x.why {
			t.Errorf("Sum of %v, %v: %d, error %d", x.words, x.parts, w, why)
		}
	}
}

// 2.3

// calls are all calls that answer an arena, those among them that are refused too.
func calls() map[string]func(a api.Arena) api.Arena {
	store := func(i, w uint64) func(a api.Arena) api.Arena {
		return func(a api.Arena) api.Arena { b, _ := arena.Store(a, i, w); return b }
	}
	wipe := func(from, n uint64) func(a api.Arena) api.Arena {
		return func(a api.Arena) api.Arena { b, _ := arena.Clear(a, from, n); return b }
	}
	move := func(to, from, n uint64) func(a api.Arena) api.Arena {
		return func(a api.Arena) api.Arena { b, _ := arena.Move(a, to, from, n); return b }
	}
	return map[string]func(a api.Arena) api.Arena{
		"Make":                    func(a api.Arena) api.Arena { b, _ := arena.Make(5); return b },
		"Store":                   store(0, 5),
		"Store of the same":       store(1, 7),
		"Store out of range":      store(5, 1),
		"Clear":                   wipe(0, 5),
		"Clear nothing":           wipe(5, 0),
		"Clear out of range":      wipe(4, 2),
		"Move up":                 move(1, 0, 4),
		"Move down":               move(0, 1, 4),
		"Move nothing":            move(5, 0, 0),
		"Move to its place":       move(0, 0, 5),
		"Move from out of range":  move(0, 4, 2),
		"Move to beyond the last": move(4, 0, 2),
	}
}

func flip(l []uint64) {
	for i := range l {
		l[i] ^= top
	}
}

func TestNewMemory(t *testing.T) {
	for name, call := range calls() {
		// The words have a neighbour behind them, which a careless append would write to.
		a := api.Arena{Words: append(chapter().Words, 99)[:5]}
		first := call(a)
		if !same(a, chapter()) || a.Words[:6][5] != 99 {
			t.Error(name, "changes its argument")
		}
		second := call(a)
		kept := slices.Clone(second.Words)
		flip(first.Words)
		if !same(a, chapter()) {
			t.Error(name, "answers its argument's memory")
		}
		if !slices.Equal(second.Words, kept) {
			t.Error(name, "answers the same memory twice")
		}
		flip(a.Words)
		if !slices.Equal(second.Words, kept) {
			t.Error(name, "keeps its argument's memory")
		}
	}
}

func TestReadersChangeNothing(t *testing.T) {
	a := chapter()
	parts := []uint64{4, 1, 4}
	arena.Check(a)
	arena.Load(a, 1)
	arena.Sum(a, parts...)
	if !same(a, chapter()) || !slices.Equal(parts, []uint64{4, 1, 4}) {
		t.Error(a, parts)
	}
}

// 2.4

func TestOneWord(t *testing.T) {
	for _, a := range []api.Arena{long(1), chapter(), long(40)} {
		for i := range a.Words {
			b, why := arena.Store(a, uint64(i), 12345)
			if why != api.OK {
				t.Error("Store:", i, why)
			}
			for j := range a.Words {
				want := a.Words[j]
				if j == i {
					want = 12345
				}
				if w, why := arena.Load(b, uint64(j)); w != want || why != api.OK {
					t.Errorf("word %d after Store of word %d: %d, error %d", j, i, w, why)
				}
			}
		}
	}
}

// 2.5

func TestMoved(t *testing.T) {
	a := long(12)
	for to := range len(a.Words) {
		for from := range len(a.Words) {
			for n := 0; exists(a, to, n) && exists(a, from, n); n++ {
				if to+n > from && from+n > to {
					continue
				}
				there, why := arena.Move(a, uint64(to), uint64(from), uint64(n))
				back, also := arena.Move(there, uint64(from), uint64(to), uint64(n))
				if why != api.OK || also != api.OK || !slices.Equal(back.Words[from:from+n], a.Words[from:from+n]) {
					t.Errorf("%d words moved to %d and back to %d: %v, errors %d, %d", n, to, from, back, why, also)
				}
			}
		}
	}
}

// The document's rules

// TestNilIsEmpty: a nil list and an empty one are the same to every call (P1).
func TestNilIsEmpty(t *testing.T) {
	for _, a := range []api.Arena{{}, {Words: []uint64{}}, {Words: make([]uint64, 0, 8)}} {
		if why := arena.Check(a); why != api.OK {
			t.Error("Check:", why)
		}
		if w, why := arena.Load(a, 0); w != 0 || why != api.ErrRange {
			t.Error("Load:", w, why)
		}
		if b, why := arena.Store(a, 0, 1); len(b.Words) != 0 || why != api.ErrRange {
			t.Error("Store:", b, why)
		}
		if b, why := arena.Clear(a, 0, 0); len(b.Words) != 0 || why != api.OK {
			t.Error("Clear:", b, why)
		}
		if b, why := arena.Move(a, 0, 0, 0); len(b.Words) != 0 || why != api.OK {
			t.Error("Move:", b, why)
		}
		if w, why := arena.Sum(a, []uint64{}...); w != 0 || why != api.OK {
			t.Error("Sum:", w, why)
		}
	}
}

// TestArgumentsAlone: the same arguments have the same answers, whatever came before and whatever room is behind them (P3).
func TestArgumentsAlone(t *testing.T) {
	roomy := api.Arena{Words: append(make([]uint64, 0, 20000), chapter().Words...)}
	for name, call := range calls() {
		want := call(chapter())
		if got := call(roomy); !same(got, want) {
			t.Error(name, "of roomy words:", got, want)
		}
		if got := call(chapter()); !same(got, want) {
			t.Error(name, "once more:", got, want)
		}
	}
	// Words that lie behind the last one are not there.
	inner := api.Arena{Words: []uint64{1, 2, 3, 4}[:2]}
	if w, why := arena.Load(inner, 2); w != 0 || why != api.ErrRange {
		t.Error("Load behind the last word:", w, why)
	}
	if b, why := arena.Clear(inner, 1, 2); why != api.ErrRange || !same(b, inner) {
		t.Error("Clear behind the last word:", b, why)
	}
	if b, why := arena.Move(inner, 0, 1, 2); why != api.ErrRange || !same(b, inner) {
		t.Error("Move from behind the last word:", b, why)
	}
	if b, why := arena.Move(inner, 1, 0, 2); why != api.ErrRange || !same(b, inner) {
		t.Error("Move to behind the last word:", b, why)
	}
}

// TestNoGoroutine: when a call has answered, no goroutine of it is left (P4).
func TestNoGoroutine(t *testing.T) {
	before := runtime.NumGoroutine()
	for _, call := range calls() {
		call(chapter())
	}
	arena.Load(chapter(), 1)
	arena.Sum(chapter(), 1, 4, 4)
	// Fewer are no fault: the goroutine of an earlier test may have ended meanwhile.
	if after := runtime.NumGoroutine(); after > before {
		t.Errorf("%d goroutines, and %d before", after, before)
	}
}
