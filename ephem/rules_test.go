package ephem_test

import (
	"runtime"
	"slices"
	"testing"

	"besom/api"
	"besom/ephem"
	"besom/sample"
)

// chapter is the table of the chapter's examples before Del.
func chapter() api.Ephem {
	return sample.Ephem(16, 1, 2, 3, 4, 5, 6, 7)
}

// crowded is a table of eight slots that has no room for a further key.
func crowded() api.Ephem {
	return sample.Ephem(8, 1, 2, 3, 4, 5, 6)
}

func some() []uint64 {
	return []uint64{2, 99, 4, 2}
}

// answer is what a call answers that may share memory.
type answer struct {
	e          api.Ephem
	keys, vals []uint64
}

type call func(e api.Ephem, keys []uint64) answer

// calls are all calls that answer a table or lists, those among them that are refused too.
func calls() map[string]call {
	puts := func(key uint64) call {
		return func(e api.Ephem, keys []uint64) answer {
			out, _ := ephem.Put(e, key, 5)
			return answer{e: out}
		}
	}
	dels := func(e api.Ephem, keys []uint64) answer {
		out, _, _ := ephem.Del(e, keys...)
		return answer{e: out}
	}
	return map[string]call{
		"Put":               puts(100),
		"Put of what is in": puts(3),
		"Put of 0":          puts(0),
		"Put to none":       func(e api.Ephem, keys []uint64) answer { return puts(1)(api.Ephem{}, keys) },
		"Put, built anew":   func(e api.Ephem, keys []uint64) answer { return puts(100)(crowded(), keys) },
		"Put without space": func(e api.Ephem, keys []uint64) answer {
			full := sample.Ephem(64, sample.KeysAt(3, 64, 1, 48)...)
			return puts(2)(full, keys)
		},
		"Del":          dels,
		"Del of none":  func(e api.Ephem, keys []uint64) answer { return dels(e, nil) },
		"Del of a few": func(e api.Ephem, keys []uint64) answer { return dels(e, keys[:1]) },
		"All": func(e api.Ephem, keys []uint64) answer {
			ks, vs, _ := ephem.All(e)
			return answer{keys: ks, vals: vs}
		},
	}
}

func (a answer) copy() answer {
	return answer{sample.CopyEphem(a.e), slices.Clone(a.keys), slices.Clone(a.vals)}
}

func (a answer) same(b answer) bool {
	return same(a.e, b.e) && slices.Equal(a.keys, b.keys) && slices.Equal(a.vals, b.vals)
}

func (a answer) spoil() {
	for i := range a.e.Slots {
		a.e.Slots[i].Val += 1000
	}
	spoil(a.keys)
	spoil(a.vals)
}

func spoil(l []uint64) {
	for i := range l {
		l[i] += 1000
	}
}

// roomy returns table and keys in memory that goes on behind them, where a careless append would write to. The rest is what lies there.
func roomy(e api.Ephem, keys []uint64) (api.Ephem, []uint64, func() bool) {
	slots := append(slices.Clone(e.Slots), used(77, 77))
	more := append(slices.Clone(keys), 77)
	n, m := len(e.Slots), len(keys)
	return api.Ephem{Slots: slots[:n]}, more[:m], func() bool {
		return slots[n] == used(77, 77) && more[m] == 77
	}
}

// 10.4

func TestNewMemory(t *testing.T) {
	for name, call := range calls() {
		e, l, rest := roomy(chapter(), some())
		first := call(e, l)
		if !same(e, chapter()) || !slices.Equal(l, some()) || !rest() {
			t.Error(name, "changes an argument")
		}
		second := call(e, l)
		if len(second.e.Slots) == 0 && len(second.keys) == 0 {
			t.Error(name, "answers nothing")
		}
		kept := second.copy()
		first.spoil()
		if !same(e, chapter()) || !slices.Equal(l, some()) || !rest() {
			t.Error(name, "answers an argument's memory")
		}
		if !second.same(kept) {
			t.Error(name, "answers the same memory twice")
		}
		answer{e: e, keys: l}.spoil()
		if !second.same(kept) {
			t.Error(name, "keeps an argument's memory")
		}
	}
}

// TestAnswersApart: a change of what a call answers does not change the table, whichever table it is.
func TestAnswersApart(t *testing.T) {
	for i, e := range sample.Ephems() {
		want := sample.CopyEphem(e)
		in, _ := pairs(e)
		for _, key := range append(keys(), in...) {
			put, _ := ephem.Put(e, key, 5)
			answer{e: put}.spoil()
			del, _, _ := ephem.Del(e, key)
			answer{e: del}.spoil()
			if !same(e, want) {
				t.Fatalf("table %d, %d: an answer shares its memory", i, key)
			}
		}
	}
}

// TestListsApart: the two lists of All share no memory, not even behind their ends.
func TestListsApart(t *testing.T) {
	for i, e := range sample.Ephems() {
		keys, vals, _ := ephem.All(e)
		kept, other := slices.Clone(keys), slices.Clone(vals)
		spoil(vals[:cap(vals)])
		if !slices.Equal(keys, kept) {
			t.Errorf("All of table %d: a change of the values changes the keys", i)
		}
		copy(vals, other)
		spoil(keys[:cap(keys)])
		if !slices.Equal(vals, other) {
			t.Errorf("All of table %d: a change of the keys changes the values", i)
		}
	}
}

func TestReadersChangeNothing(t *testing.T) {
	e, _, rest := roomy(chapter(), nil)
	ephem.Check(e)
	ephem.All(e)
	for _, key := range keys() {
		ephem.Get(e, key)
	}
	if !same(e, chapter()) || !rest() {
		t.Error(e)
	}
}

// The document's rules

// TestNilIsEmpty: a nil list and an empty one are the same to every call (P1).
func TestNilIsEmpty(t *testing.T) {
	for _, slots := range [][]api.EphSlot{nil, {}, make([]api.EphSlot, 0, 64)} {
		e := api.Ephem{Slots: slots}
		if why := ephem.Check(e); why != api.OK {
			t.Error("Check:", why)
		}
		if val, why := ephem.Get(e, 1); val != 0 || why != api.ErrNone {
			t.Error("Get:", val, why)
		}
		if val, why := ephem.Get(e, 0); val != 0 || why != api.ErrNil {
			t.Error("Get of 0:", val, why)
		}
		if out, why := ephem.Put(e, 0, 1); len(out.Slots) != 0 || why != api.ErrNil {
			t.Error("Put of 0:", out, why)
		}
		if out, why := ephem.Put(e, 1, 10); !same(out, sample.Ephem(8, 1)) || why != api.OK {
			t.Error("Put:", out, why)
		}
		for _, l := range [][]uint64{nil, {}, {1, 0}} {
			if out, n, why := ephem.Del(e, l...); len(out.Slots) != 0 || n != 0 || why != api.OK {
				t.Error("Del:", out, n, why)
			}
			if out, n, why := ephem.Del(chapter(), l[:0]...); !same(out, chapter()) || n != 0 || why != api.OK {
				t.Error("Del of none:", out, n, why)
			}
		}
		if keys, vals, why := ephem.All(e); len(keys) != 0 || len(vals) != 0 || why != api.OK {
			t.Error("All:", keys, vals, why)
		}
	}
}

// TestArgumentsAlone: the same arguments have the same answers, whatever came before and whatever room is behind them (P3).
func TestArgumentsAlone(t *testing.T) {
	for name, call := range calls() {
		want := call(chapter(), some())
		e, l, _ := roomy(chapter(), some())
		if got := call(e, l); !got.same(want) {
			t.Error(name, "of a roomy table:", got, want)
		}
		if got := call(chapter(), some()); !got.same(want) {
			t.Error(name, "once more:", got, want)
		}
	}
}

// TestNoGoroutine: when a call has answered, no goroutine of it is left (P4).
func TestNoGoroutine(t *testing.T) {
	before := runtime.NumGoroutine()
	for _, call := range calls() {
		call(chapter(), some())
	}
	ephem.Check(chapter())
	ephem.Get(chapter(), 3)
	ephem.Home(3, 16)
	// Fewer are no fault: the goroutine of an earlier test may have ended meanwhile.
	if after := runtime.NumGoroutine(); after > before {
		t.Errorf("%d goroutines, and %d before", after, before)
	}
}
