package special_test

import (
	"cmp"
	"math"
	"runtime"
	"slices"
	"testing"

	"besom/api"
	"besom/sample"
	"besom/special"
)

const (
	final = api.SpecialFinal
	clean = api.SpecialClean
)

// chapter is the list l of the chapter's examples.
func chapter() []api.Special {
	return []api.Special{sample.Final(16, 2), sample.Cleanup(16, 5), sample.Cleanup(20, 1), sample.Cleanup(20, 3), sample.Final(20, 4)}
}

func tags(l []api.Special) []uint64 {
	var out []uint64
	for _, s := range l {
		out = append(out, s.Tag)
	}
	return out
}

// addrs are addresses at, between and next to those of the lists, and at the ends of their type.
func addrs() []uint64 {
	return []uint64{0, 1, 2, 15, 16, 17, 18, 20, 21, 32, 47, 63, 64, 65, 1 << 32, 1<<32 + 16, 1 << 63, math.MaxUint64 - 1, math.MaxUint64}
}

func kinds() []api.SpecialKind {
	return []api.SpecialKind{0, final, clean, 3, 4, 128, 255}
}

// valid follows the chapter's words.
func valid(l []api.Special) bool {
	finals := map[uint64]int{}
	for i, s := range l {
		if s.Kind == final {
			finals[s.Addr]++
		}
		if s.Addr == 0 || s.Kind != final && s.Kind != clean || finals[s.Addr] > 1 || i > 0 && s.Addr < l[i-1].Addr {
			return false
		}
	}
	return len(l) <= 64
}

// added is what Add answers by the chapter's words.
func added(l []api.Special, more ...api.Special) ([]api.Special, api.Errno) {
	out := slices.Clone(l)
	for _, s := range more {
		switch {
		case s.Addr == 0 || s.Kind != final && s.Kind != clean:
			return l, api.ErrForm
		case s.Kind == final && len(which(out, s.Addr, final)) > 0:
			return l, api.ErrTwice
		case len(out) == 64:
			return l, api.ErrFull
		}
		// A stable order puts it behind its equals.
		out = append(out, s)
		slices.SortStableFunc(out, func(a, b api.Special) int { return cmp.Compare(a.Addr, b.Addr) })
	}
	return out, api.OK
}

// which are the specials of an address and one of the kinds.
func which(l []api.Special, addr uint64, kinds ...api.SpecialKind) []api.Special {
	return slices.DeleteFunc(slices.Clone(l), func(s api.Special) bool {
		return s.Addr != addr || !slices.Contains(kinds, s.Kind)
	})
}

// TestSampleIsValid: the lists of the sample are what they are said to be, by the chapter's words.
func TestSampleIsValid(t *testing.T) {
	for i, l := range sample.Specials() {
		if !valid(l) {
			t.Errorf("list %d is not valid", i)
		}
	}
	for i, l := range sample.BadSpecials() {
		if valid(l) {
			t.Errorf("invalid list %d is valid", i)
		}
	}
}

// 8.1

func TestCheck(t *testing.T) {
	for i, l := range sample.Specials() {
		if why := special.Check(l); why != api.OK {
			t.Errorf("Check of list %d: error %d", i, why)
		}
	}
	for i, l := range sample.BadSpecials() {
		if why := special.Check(l); why != api.ErrForm {
			t.Errorf("Check of invalid list %d: error %d", i, why)
		}
	}
}

// TestCheckOne: whatever one special of a list is replaced by, Check answers what the chapter's words say.
func TestCheckOne(t *testing.T) {
	for _, l := range sample.Specials() {
		for i, was := range l {
			for _, addr := range addrs() {
				for _, kind := range kinds() {
					l[i] = api.Special{Addr: addr, Kind: kind}
					if why := special.Check(l); (why == api.OK) != valid(l) {
						t.Fatalf("Check of %v: error %d", l, why)
					}
				}
			}
			l[i] = was
		}
	}
}

func TestInvalidComesFirst(t *testing.T) {
	for i, l := range sample.BadSpecials() {
		refused := func(name string, zero bool, why api.Errno) {
			t.Helper()
			if !zero || why != api.ErrForm {
				t.Errorf("%s of invalid list %d: error %d", name, i, why)
			}
		}
		for _, more := range [][]api.Special{nil, {{}}, {sample.Final(16, 1)}, {sample.Cleanup(20, 1)}, {{Addr: 7, Kind: 9, Tag: 1}}} {
			out, why := special.Add(l, more...)
			refused("Add", len(out) == 0, why)
		}
		for _, addr := range addrs() {
			out, why := special.Of(l, addr)
			refused("Of", len(out) == 0, why)
			for _, kind := range kinds() {
				left, taken, why := special.Take(l, addr, kind)
				refused("Take", len(left) == 0 && len(taken) == 0, why)
			}
		}
		for _, kind := range kinds() {
			out, why := special.Addrs(l, kind)
			refused("Addrs", len(out) == 0, why)
		}
	}
}

func TestAdd(t *testing.T) {
	for i, l := range sample.Specials() {
		for _, addr := range addrs() {
			for _, kind := range kinds() {
				s := api.Special{Addr: addr, Kind: kind, Tag: 77}
				want, no := added(l, s)
				if out, why := special.Add(l, s); !slices.Equal(out, want) || why != no {
					t.Fatalf("Add to list %d, %v: %v, error %d; want %v, %d", i, s, out, why, want, no)
				}
			}
		}
	}
}

// TestAddSeveral: several specials are added one after the other, or, if one of them is refused, none.
func TestAddSeveral(t *testing.T) {
	parts := []api.Special{sample.Final(16, 1), sample.Cleanup(16, 2), sample.Final(0, 3), {Addr: 20, Kind: 0, Tag: 4}, sample.Final(20, 5), sample.Cleanup(3, 6), sample.Cleanup(math.MaxUint64, 7), sample.Final(3, math.MaxUint64)}
	for i, l := range sample.Specials() {
		if out, why := special.Add(l); !slices.Equal(out, l) || why != api.OK {
			t.Errorf("Add of none to list %d: error %d", i, why)
		}
		for _, a := range parts {
			for _, b := range parts {
				for _, c := range parts {
					want, no := added(l, a, b, c)
					if out, why := special.Add(l, a, b, c); !slices.Equal(out, want) || why != no {
						t.Fatalf("Add to list %d, %v, %v, %v: %v, error %d; want %v, %d", i, a, b, c, out, why, want, no)
					}
				}
			}
		}
	}
}

// TestAddErrors: of several errors, the first one in the chapter's order is returned, for the first special that has one.
func TestAddErrors(t *testing.T) {
	var full []api.Special
	for i := range 64 {
		full = append(full, api.Special{Addr: uint64(i/2 + 1), Kind: []api.SpecialKind{final, clean}[i%2]})
	}
	refused := func(want api.Errno, l []api.Special, more ...api.Special) {
		t.Helper()
		if out, why := special.Add(l, more...); !slices.Equal(out, l) || why != want {
			t.Errorf("Add of %v: %d specials, error %d; want %d", more, len(out), why, want)
		}
	}
	wrong, twice, more := api.Special{Addr: 0, Kind: final}, api.Special{Addr: 1, Kind: final}, api.Special{Addr: 99, Kind: final}
	refused(api.ErrForm, full, wrong)
	refused(api.ErrForm, full, api.Special{Addr: 1})
	refused(api.ErrForm, full, api.Special{Addr: 1, Kind: 3})
	refused(api.ErrTwice, full, twice)
	refused(api.ErrFull, full, more)
	refused(api.ErrFull, full, api.Special{Addr: 1, Kind: clean})
	refused(api.ErrFull, full, more, wrong)
	refused(api.ErrTwice, full, twice, wrong)
	refused(api.ErrTwice, full[:63], api.Special{Addr: 1, Kind: clean}, twice)
	refused(api.ErrFull, full[:63], more, sample.Cleanup(99, 1), wrong)
	refused(api.ErrForm, full[:63], wrong, more, more)
	refused(api.ErrTwice, nil, more, api.Special{Addr: 99, Kind: clean}, more, wrong)
	refused(api.ErrFull, nil, append(slices.Clone(full), more)...)
	if out, why := special.Add(nil, full...); !slices.Equal(out, full) || why != api.OK {
		t.Errorf("Add of 64: %d specials, error %d", len(out), why)
	}
}

func TestOf(t *testing.T) {
	for i, l := range sample.Specials() {
		for _, addr := range addrs() {
			want := which(l, addr, final, clean)
			if out, why := special.Of(l, addr); !slices.Equal(out, want) || why != api.OK {
				t.Errorf("Of list %d, %d: %v, error %d; want %v", i, addr, out, why, want)
			}
		}
	}
}

// 8.2

func TestTake(t *testing.T) {
	for i, l := range sample.Specials() {
		for _, addr := range addrs() {
			for _, kind := range kinds() {
				gone := which(l, addr, kind)
				rest := slices.DeleteFunc(slices.Clone(l), func(s api.Special) bool { return s.Addr == addr && s.Kind == kind })
				left, taken, why := special.Take(l, addr, kind)
				if !slices.Equal(left, rest) || !slices.Equal(taken, gone) || why != api.OK {
					t.Errorf("Take of list %d, %d, %d: %v, %v, error %d; want %v, %v", i, addr, kind, left, taken, why, rest, gone)
				}
			}
		}
	}
}

func TestAddrs(t *testing.T) {
	for i, l := range sample.Specials() {
		for _, kind := range kinds() {
			var want []uint64
			for _, s := range l {
				if s.Kind == kind && !slices.Contains(want, s.Addr) {
					want = append(want, s.Addr)
				}
			}
			if out, why := special.Addrs(l, kind); !slices.Equal(out, want) || why != api.OK {
				t.Errorf("Addrs of list %d, %d: %d, error %d; want %d", i, kind, out, why, want)
			}
		}
	}
}

// Examples

func TestChapterExamples(t *testing.T) {
	l, why := special.Add(nil, sample.Cleanup(20, 1), sample.Final(16, 2), sample.Cleanup(20, 3), sample.Final(20, 4), sample.Cleanup(16, 5))
	if !slices.Equal(l, chapter()) || !slices.Equal(tags(l), []uint64{2, 5, 1, 3, 4}) || why != api.OK {
		t.Fatal("Add:", l, why)
	}
	if why := special.Check([]api.Special{sample.Final(16, 1), sample.Final(16, 2)}); why != api.ErrForm {
		t.Error("Check of two finalizers of an address:", why)
	}
	if out, why := special.Add(l, sample.Final(16, 6)); !slices.Equal(out, l) || why != api.ErrTwice {
		t.Error("Add of a second finalizer:", out, why)
	}
	full := slices.Repeat([]api.Special{sample.Cleanup(16, 1)}, 64)
	if out, why := special.Add(full, sample.Cleanup(16, 1)); !slices.Equal(out, full) || why != api.ErrFull {
		t.Error("Add to 64 cleanups:", len(out), why)
	}
	if out, why := special.Of(l, 20); !slices.Equal(tags(out), []uint64{1, 3, 4}) || why != api.OK {
		t.Error("Of:", out, why)
	}
	left, taken, why := special.Take(l, 20, clean)
	if !slices.Equal(tags(left), []uint64{2, 5, 4}) || !slices.Equal(tags(taken), []uint64{1, 3}) || why != api.OK {
		t.Error("Take:", left, taken, why)
	}
	if out, why := special.Addrs(l, final); !slices.Equal(out, []uint64{16, 20}) || why != api.OK {
		t.Error("Addrs:", out, why)
	}
}

// TestTwoOfOne is the example at the end of the chapter.
func TestTwoOfOne(t *testing.T) {
	l, why := special.Add(nil, sample.Cleanup(16, 1), sample.Final(32, 2), sample.Cleanup(16, 3))
	if !slices.Equal(l, []api.Special{sample.Cleanup(16, 1), sample.Cleanup(16, 3), sample.Final(32, 2)}) || why != api.OK {
		t.Error(l, why)
	}
}

// 8.3

// calls are all calls that answer lists, those among them that are refused too.
func calls() map[string]func(l, more []api.Special) [2][]api.Special {
	add := func(l, more []api.Special) [2][]api.Special {
		out, _ := special.Add(l, more...)
		return [2][]api.Special{out}
	}
	take := func(addr uint64, kind api.SpecialKind) func(l, more []api.Special) [2][]api.Special {
		return func(l, more []api.Special) [2][]api.Special {
			left, taken, _ := special.Take(l, addr, kind)
			return [2][]api.Special{left, taken}
		}
	}
	return map[string]func(l, more []api.Special) [2][]api.Special{
		"Add":         add,
		"Add of none": func(l, more []api.Special) [2][]api.Special { return add(l, nil) },
		"Add to none": func(l, more []api.Special) [2][]api.Special { return add(nil, more) },
		"Add of one twice": func(l, more []api.Special) [2][]api.Special {
			return add(l, append(slices.Clone(more), l[0]))
		},
		"Of": func(l, more []api.Special) [2][]api.Special {
			out, _ := special.Of(l, 20)
			return [2][]api.Special{out}
		},
		"Of the first one": func(l, more []api.Special) [2][]api.Special {
			out, _ := special.Of(l, 16)
			return [2][]api.Special{out}
		},
		"Take":          take(20, clean),
		"Take of none":  take(17, final),
		"Take of a few": take(16, final),
	}
}

func more() []api.Special {
	return []api.Special{sample.Final(18, 8), sample.Cleanup(20, 9), sample.Final(3, 10)}
}

// roomy returns the list in memory that goes on behind it, where a careless append would write to.
func roomy(l []api.Special) []api.Special {
	return append(l, api.Special{Addr: 99})[:len(l)]
}

func sameLists(a, b [2][]api.Special) bool {
	return slices.Equal(a[0], b[0]) && slices.Equal(a[1], b[1])
}

// spoil changes all specials of the lists.
func spoil(lists ...[]api.Special) {
	for _, l := range lists {
		for i := range l {
			l[i].Addr += 1000
		}
	}
}

func TestNewMemory(t *testing.T) {
	for name, call := range calls() {
		l, m := roomy(chapter()), roomy(more())
		first := call(l, m)
		if !slices.Equal(l, chapter()) || !slices.Equal(m, more()) || l[:6][5].Addr != 99 || m[:4][3].Addr != 99 {
			t.Error(name, "changes an argument")
		}
		second := call(l, m)
		if len(second[0]) == 0 {
			t.Error(name, "answers nothing")
		}
		kept := [2][]api.Special{slices.Clone(second[0]), slices.Clone(second[1])}
		spoil(first[0], first[1])
		if !slices.Equal(l, chapter()) || !slices.Equal(m, more()) {
			t.Error(name, "answers an argument's memory")
		}
		if !sameLists(second, kept) {
			t.Error(name, "answers the same memory twice")
		}
		spoil(l, m)
		if !sameLists(second, kept) {
			t.Error(name, "keeps an argument's memory")
		}
		spoil(second[0])
		if !slices.Equal(second[1], kept[1]) {
			t.Error(name, "answers two lists that share memory")
		}
	}
}

func TestAddrsChangesNothing(t *testing.T) {
	l := roomy(chapter())
	special.Check(l)
	first, _ := special.Addrs(l, clean)
	second, _ := special.Addrs(l, clean)
	first[0] = 0
	if !slices.Equal(l, chapter()) || l[:6][5].Addr != 99 || !slices.Equal(second, []uint64{16, 20}) {
		t.Error(l, second)
	}
}

// 8.4

// TestThereAndBack: to an address without specials of a kind some are added, and taken again.
func TestThereAndBack(t *testing.T) {
	for i, l := range sample.Specials() {
		for _, addr := range addrs() {
			for _, kind := range kinds() {
				for n := range 4 {
					if len(which(l, addr, kind)) > 0 {
						continue
					}
					var fresh []api.Special
					for tag := range n {
						fresh = append(fresh, api.Special{Addr: addr, Kind: kind, Tag: uint64(tag)})
					}
					out, why := special.Add(l, fresh...)
					if why != api.OK {
						continue
					}
					left, taken, why := special.Take(out, addr, kind)
					if !slices.Equal(left, l) || !slices.Equal(taken, fresh) || why != api.OK {
						t.Fatalf("Take of list %d, %d, %d, after Add of %d: %v, %v, error %d", i, addr, kind, n, left, taken, why)
					}
				}
			}
		}
	}
}

// The document's rules

// TestNilIsEmpty: a nil list and an empty one are the same to every call (P1).
func TestNilIsEmpty(t *testing.T) {
	for _, l := range [][]api.Special{nil, {}, make([]api.Special, 0, 8)} {
		if why := special.Check(l); why != api.OK {
			t.Error("Check:", why)
		}
		for _, m := range [][]api.Special{nil, {}} {
			if out, why := special.Add(l, m...); len(out) != 0 || why != api.OK {
				t.Error("Add:", out, why)
			}
		}
		if out, why := special.Of(l, 0); len(out) != 0 || why != api.OK {
			t.Error("Of:", out, why)
		}
		if left, taken, why := special.Take(l, 16, final); len(left) != 0 || len(taken) != 0 || why != api.OK {
			t.Error("Take:", left, taken, why)
		}
		if out, why := special.Addrs(l, clean); len(out) != 0 || why != api.OK {
			t.Error("Addrs:", out, why)
		}
	}
}

// TestArgumentsAlone: the same arguments have the same answers, whatever came before and whatever room is behind them (P3).
func TestArgumentsAlone(t *testing.T) {
	for name, call := range calls() {
		want := call(chapter(), more())
		if got := call(roomy(chapter()), roomy(more())); !sameLists(got, want) {
			t.Error(name, "of a roomy list:", got, want)
		}
		if got := call(chapter(), more()); !sameLists(got, want) {
			t.Error(name, "once more:", got, want)
		}
	}
}

// TestNoGoroutine: when a call has answered, no goroutine of it is left (P4).
func TestNoGoroutine(t *testing.T) {
	before := runtime.NumGoroutine()
	for _, call := range calls() {
		call(chapter(), more())
	}
	special.Check(chapter())
	special.Addrs(chapter(), final)
	// Fewer are no fault: the goroutine of an earlier test may have ended meanwhile.
	if after := runtime.NumGoroutine(); after > before {
		t.Errorf("%d goroutines, and %d before", after, before)
	}
}
