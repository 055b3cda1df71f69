package cache_test

import (
	"runtime"
	"slices"
	"testing"

	"besom/api"
	"besom/cache"
	"besom/sample"
)

// answer is what a call answers.
type answer struct {
	c      api.Cache
	number uint64
	freed  []uint64
}

func (a answer) like(b answer) bool {
	return same(a.c, b.c) && a.number == b.number && slices.Equal(a.freed, b.freed)
}

func (a answer) twin() answer {
	return answer{sample.CopyCache(a.c), a.number, slices.Clone(a.freed)}
}

// spoils are functions each of which changes one list of an answer, and what lies behind its end.
func (a answer) spoils() []func() {
	return append(sample.SpoilsOfCache(a.c), sample.SpoilWords(a.freed))
}

// calls are all calls that answer a cache.
func calls() map[string]func(c api.Cache) answer {
	alloc := func(who, fields int) func(c api.Cache) answer {
		return func(c api.Cache) answer {
			out, addr, _ := cache.New(c, who, api.Shape{N: fields})
			return answer{c: out, number: addr}
		}
	}
	flush := func(who ...int) func(c api.Cache) answer {
		return func(c api.Cache) answer {
			out, _ := cache.Flush(c, who...)
			return answer{c: out}
		}
	}
	return map[string]func(c api.Cache) answer{
		"Make": func(c api.Cache) answer {
			out, _ := cache.Make(c.Gc, 3)
			return answer{c: out}
		},
		"New of 1 field": alloc(0, 1), "New of 3 fields": alloc(0, 3), "New of 7 fields": alloc(0, 7), "New of 15 fields": alloc(0, 15),
		"New, large": alloc(0, 17), "New, very large": alloc(0, 48), "New, no shape": alloc(0, 49), "New, nobody": alloc(-1, 1),
		"Flush": flush(0), "Flush of all": flush(), "Flush of nobody": flush(0, 4),
		"Finish": func(c api.Cache) answer {
			out, n, _ := cache.Finish(c)
			return answer{c: out, number: uint64(n)}
		},
		"Sweep": func(c api.Cache) answer {
			out, freed, _ := cache.Sweep(c)
			return answer{c: out, freed: freed}
		},
	}
}

// arguments are caches with which the calls succeed, and others with which they are refused.
func arguments() []api.Cache {
	mark := sample.SixMarked(api.PhaseMark, 16, 18, 20)
	late := sample.SixMarked(api.PhaseLate, 16, 18, 20, 22, 24, 26)
	full := sample.SixLists()
	full.Marker.Heap.Pages.Used.W[0] = 15
	full.Marker.Heap.Spans = append(full.Marker.Heap.Spans, sample.Span(2, 1, 4, 0, 0), sample.Span(3, 1, 2, 0, 0))
	return []api.Cache{
		sample.Cache(sample.FourSizes(), []int{1, 2, 3, 4}), sample.Cache(sample.FourSizes(), []int{0, 8, 0, 0}, []int{1, 2, 0, 4}), sample.Cache(sample.FourSizes(), sample.Nobody(4)...),
		sample.Cache(sample.FourSizes(), []int{1, 0, 0, 0}, []int{0, 2, 0, 0}, []int{0, 8, 3, 0}),
		sample.Cache(sample.SixLists(), []int{1, 0, 0, 0}), sample.Cache(mark, []int{1, 0, 0, 0}), sample.Cache(mark, sample.Nobody(2)...), sample.Cache(late, []int{1, 0, 0, 0}, []int{0, 0, 0, 0}),
		sample.Cache(full, []int{0, 0, 0, 0}, []int{3, 2, 0, 0}), sample.Cache(full, []int{3, 0, 0, 0}, []int{1, 0, 0, 0}), sample.Cache(sample.ThreeLarge(), sample.Nobody(3)...),
	}
}

// trial tries the calls with these arguments.
func trial() sample.Trial[api.Cache, answer] {
	return sample.Trial[api.Cache, answer]{
		Calls: calls(), Arguments: arguments(), Roomy: sample.RoomyCache,
		SpoilsOf: sample.SpoilsOfCache, Spoils: answer.spoils, Same: same, Like: answer.like, Twin: answer.twin,
	}
}

// TestArguments: the arguments are valid, and with some of them objects are allocated in each way, and each other call succeeds.
func TestArguments(t *testing.T) {
	ways, others := map[way]int{}, map[string]int{}
	for i, c := range arguments() {
		if why := cache.Check(c); why != api.OK {
			t.Errorf("argument %d: error %d", i, why)
		}
		for _, n := range []int{1, 3, 7, 15, 17, 48} {
			_, _, _, how := made(c, 0, api.Shape{N: n})
			ways[how]++
		}
		if _, _, why := cache.Finish(c); why == api.OK {
			others["Finish"]++
		}
		if _, _, why := cache.Sweep(c); why == api.OK {
			others["Sweep"]++
		}
	}
	for how := none; how < wayCount; how++ {
		if ways[how] == 0 {
			t.Error(ways)
		}
	}
	if others["Finish"] < 2 || others["Sweep"] < 2 {
		t.Error(others)
	}
}

// 22.4

func TestNewMemory(t *testing.T) {
	some := trial()
	some.Arguments = append(some.Arguments, caches(60)...)
	for _, fault := range some.Memory() {
		t.Error(fault)
	}
}

// TestListsApart: no two lists of an answer share memory, not even behind their ends, whether or not those of the argument do.
func TestListsApart(t *testing.T) {
	for _, fault := range trial().Lists(sample.WovenCaches()...) {
		t.Error(fault)
	}
}

// TestWoven: the caches whose lists share memory are valid, and are answered as if they did not.
func TestWoven(t *testing.T) {
	for i, c := range sample.WovenCaches() {
		if why := cache.Check(c); why != api.OK {
			t.Errorf("cache %d: error %d", i, why)
		}
		for name, call := range calls() {
			if want := call(sample.CopyCache(c)); !call(c).like(want) {
				t.Error(name, i)
			}
		}
	}
}

// TestMutators: the mutators that Flush is given are neither changed nor kept.
func TestMutators(t *testing.T) {
	c := sample.Cache(sample.FourSizes(), []int{0, 8, 0, 0}, []int{1, 2, 0, 4})
	long := []int{1, 0, 1, 77}
	got, why := cache.Flush(c, long[:3]...)
	if why != api.OK || !slices.Equal(long, []int{1, 0, 1, 77}) {
		t.Error(long, why)
	}
	clear(long)
	if want := sample.Cache(sample.FourSizes(), sample.Nobody(2)...); !same(got, want) {
		t.Error(got.Spans)
	}
	// They may be what a mutator owns.
	own := sample.Cache(sample.FourSizes(), []int{1, 2, 3, 4}, []int{0, 0, 0, 0})
	if got, why := cache.Flush(own, own.Spans[0][:1]...); !same(got, own) || why != api.OK {
		t.Error(got.Spans, why)
	}
	if got, why := cache.Flush(own, own.Spans[1]...); !same(got, sample.Cache(own.Gc, sample.Nobody(2)...)) || !slices.Equal(own.Spans[0], []int{1, 2, 3, 4}) || why != api.OK {
		t.Error(got.Spans, why)
	}
}

// TestReaders: what only asks changes nothing.
func TestReaders(t *testing.T) {
	for i, start := range arguments() {
		c, rest := sample.RoomyCache(start)
		cache.Check(c)
		for first := range 10 {
			cache.Owner(c, first)
		}
		if !same(c, start) || !rest() {
			t.Error(i, c)
		}
	}
}

// The document's rules

// TestNilIsEmpty: a nil list and an empty one are the same to every call (P1).
func TestNilIsEmpty(t *testing.T) {
	for phase := range api.PhaseCount {
		g, bare := sample.BareGcs(phase)
		nils, empties := sample.Cache(g, sample.Nobody(2)...), sample.Cache(bare, sample.Nobody(2)...)
		for name, call := range calls() {
			if a, b := call(nils), call(empties); !a.like(b) || len(a.c.Spans) < 2 {
				t.Error(name, a, b)
			}
		}
		for _, g := range []api.Gc{g, bare} {
			for _, c := range []api.Cache{{Gc: g}, {Gc: g, Spans: [][]int{}, Hits: []uint64{}, Misses: []uint64{}}, sample.Cache(g, nil), sample.Cache(g, []int{})} {
				if why := cache.Check(c); why != api.ErrForm {
					t.Error("phase", phase, why)
				}
			}
		}
		one, _ := cache.Flush(nils, []int{}...)
		other, why := cache.Flush(nils)
		if !same(one, other) || why != api.OK {
			t.Error("Flush of all, in phase", phase, why)
		}
	}
}

// TestArgumentsAlone: the same arguments have the same answers, whatever came before and whatever room is behind them (P3).
func TestArgumentsAlone(t *testing.T) {
	for _, fault := range trial().Again() {
		t.Error(fault)
	}
}

// TestNoGoroutine: when a call has answered, no goroutine of it is left (P4).
func TestNoGoroutine(t *testing.T) {
	before := runtime.NumGoroutine()
	for _, c := range arguments() {
		for _, call := range calls() {
			call(c)
		}
		cache.Check(c)
		cache.Owner(c, 1)
	}
	// Fewer are no fault: the goroutine of an earlier test may have ended meanwhile.
	if after := runtime.NumGoroutine(); after > before {
		t.Errorf("%d goroutines, and %d before", after, before)
	}
}
