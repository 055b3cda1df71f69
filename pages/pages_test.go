package pages_test

import (
	"math"
	"runtime"
	"slices"
	"testing"

	"besom/api"
	"besom/pages"
	"besom/sample"
)

// of returns the pages of which those are in use that l says.
func of(l []bool) api.Pages {
	return api.Pages{Used: sample.Pack(l)}
}

func same(a, b api.Pages) bool {
	return sample.SameBits(a.Used, b.Used)
}

func empty(p api.Pages) bool {
	return same(p, api.Pages{})
}

// alike reports whether the n pages from page first on exist and are all in use, or all free.
func alike(l []bool, first, n int, used bool) bool {
	return n <= len(l)-first && !slices.Contains(l[first:first+n], !used)
}

// firstFit returns the smallest index at which n consecutive pages are free, or -1.
func firstFit(l []bool, n int) int {
	for i := range l {
		if alike(l, i, n, false) {
			return i
		}
	}
	return -1
}

func longest(l []bool) int {
	n := 0
	for firstFit(l, n+1) >= 0 {
		n++
	}
	return n
}

func changed(l []bool, first, n int, used bool) []bool {
	l = slices.Clone(l)
	for i := range n {
		l[first+i] = used
	}
	return l
}

// chapter is the state of the chapter's examples for Free and Longest: of eight pages, page 5 alone is free.
func chapter() api.Pages {
	return of([]bool{true, true, true, true, true, false, true, true})
}

// mixed is 70 pages, of which 0 to 9, 20, 63, 64 and 69 are in use.
func mixed() api.Pages {
	return api.Pages{Used: api.Bits{N: 70, W: []uint64{1<<10 - 1 | 1<<20 | 1<<63, 1 | 1<<5}}}
}

// 3.1

func TestCheck(t *testing.T) {
	for _, l := range sample.Patterns(0, 1, 8, 63, 64, 65, 70, 4095, 4096) {
		if why := pages.Check(of(l)); why != api.OK {
			t.Errorf("Check of %d pages: error %d", len(l), why)
		}
	}
	for i, b := range sample.BadBits() {
		if why := pages.Check(api.Pages{Used: b}); why != api.ErrForm {
			t.Errorf("Check of invalid pages %d: error %d", i, why)
		}
	}
}

func TestMake(t *testing.T) {
	for _, n := range []int{0, 1, 2, 8, 63, 64, 65, 1024, 4095, 4096} {
		if p, why := pages.Make(n); why != api.OK || !same(p, of(make([]bool, n))) {
			t.Errorf("Make(%d): %v, error %d", n, p, why)
		}
	}
	for _, n := range sample.Ints() {
		if p, why := pages.Make(n); why != api.ErrRange || !empty(p) {
			t.Errorf("Make(%d): %v, error %d", n, p, why)
		}
	}
}

func TestInvalidComesFirst(t *testing.T) {
	for i, b := range sample.BadBits() {
		bad := api.Pages{Used: b}
		for _, n := range append(sample.Ints(), 0, 1, 2, 64, 70) {
			if p, at, why := pages.Take(bad, n); !empty(p) || at != 0 || why != api.ErrForm {
				t.Errorf("Take of invalid pages %d, %d: %v, %d, error %d", i, n, p, at, why)
			}
			for _, first := range []int{-1, 0, 1, n} {
				if p, why := pages.Give(bad, first, n); !empty(p) || why != api.ErrForm {
					t.Errorf("Give of invalid pages %d, %d, %d: %v, error %d", i, first, n, p, why)
				}
			}
		}
		if n, why := pages.Free(bad); n != 0 || why != api.ErrForm {
			t.Errorf("Free of invalid pages %d: %d, error %d", i, n, why)
		}
		if n, why := pages.Longest(bad); n != 0 || why != api.ErrForm {
			t.Errorf("Longest of invalid pages %d: %d, error %d", i, n, why)
		}
	}
}

// 3.2

func TestTake(t *testing.T) {
	for _, l := range sample.Patterns(0, 1, 2, 8, 63, 64, 65, 70, 129, 200) {
		for n := 1; n <= len(l)+2; n++ {
			at, full, want := firstFit(l, n), api.OK, of(l)
			if at < 0 {
				at, full = 0, api.ErrFull
			} else {
				want = of(changed(l, at, n, true))
			}
			if p, i, why := pages.Take(of(l), n); !same(p, want) || i != at || why != full {
				t.Fatalf("Take of %v, %d: %v, %d, error %d; want %d, %d", of(l), n, p, i, why, at, full)
			}
		}
	}
	all := make([]bool, 4096)
	if p, i, why := pages.Take(of(all), 4096); !same(p, of(changed(all, 0, 4096, true))) || i != 0 || why != api.OK {
		t.Errorf("Take of 4096 pages: %d, error %d", i, why)
	}
}

func TestTakeOutOfRange(t *testing.T) {
	for _, l := range sample.Patterns(0, 1, 8, 64, 70, 4096) {
		for _, n := range append(sample.Ints(), 0) {
			want := api.ErrRange
			if n > 0 {
				want = api.ErrFull
			}
			if p, i, why := pages.Take(of(l), n); !same(p, of(l)) || i != 0 || why != want {
				t.Errorf("Take of %d pages, %d: %v, %d, error %d; want %d", len(l), n, p, i, why, want)
			}
		}
	}
}

func TestGive(t *testing.T) {
	for _, l := range sample.Patterns(1, 2, 8, 64, 65, 70, 129) {
		for first := range l {
			for n := 1; n <= len(l)-first; n++ {
				want, state := of(l), api.ErrState
				if alike(l, first, n, true) {
					want, state = of(changed(l, first, n, false)), api.OK
				}
				if p, why := pages.Give(of(l), first, n); !same(p, want) || why != state {
					t.Fatalf("Give of %v, %d, %d: %v, error %d; want %d", of(l), first, n, p, why, state)
				}
			}
		}
	}
	all := slices.Repeat([]bool{true}, 4096)
	if p, why := pages.Give(of(all), 0, 4096); !same(p, of(make([]bool, 4096))) || why != api.OK {
		t.Error("Give of 4096 pages: error", why)
	}
}

// TestGiveOutOfRange: what is out of range is refused as that, be the pages in it free or in use.
func TestGiveOutOfRange(t *testing.T) {
	for _, l := range sample.Patterns(0, 1, 8, 64, 70, 4096) {
		size := len(l)
		wrong := [][2]int{
			{size, 1}, {0, size + 1}, {size + 1, 1}, {size, 0}, {size + 1, -1}, {0, 0}, {1, 0},
			{-1, 0}, {-1, 1}, {-1, 2}, {-1, size + 1}, {0, -1}, {size, -1}, {1, size},
		}
		for _, n := range sample.Ints() {
			wrong = append(wrong, [2]int{n, 1}, [2]int{0, n}, [2]int{n, n}, [2]int{n, 0}, [2]int{1, n}, [2]int{n, -n},
				[2]int{size, n}, [2]int{n, size - n}, [2]int{n, math.MaxInt}, [2]int{n, math.MinInt})
		}
		for _, x := range wrong {
			if p, why := pages.Give(of(l), x[0], x[1]); !same(p, of(l)) || why != api.ErrRange {
				t.Errorf("Give of %d pages, %d, %d: %v, error %d", size, x[0], x[1], p, why)
			}
		}
	}
}

// 3.3

func TestFree(t *testing.T) {
	for _, l := range sample.Patterns(0, 1, 2, 8, 63, 64, 65, 70, 129, 4095, 4096) {
		want := 0
		for _, used := range l {
			if !used {
				want++
			}
		}
		if n, why := pages.Free(of(l)); n != want || why != api.OK {
			t.Errorf("Free of %v: %d, error %d; want %d", of(l), n, why, want)
		}
	}
}

func TestLongest(t *testing.T) {
	for _, l := range sample.Patterns(0, 1, 2, 8, 63, 64, 65, 70, 129, 1024) {
		if n, why := pages.Longest(of(l)); n != longest(l) || why != api.OK {
			t.Errorf("Longest of %v: %d, error %d; want %d", of(l), n, why, longest(l))
		}
	}
	if n, why := pages.Longest(of(make([]bool, 4096))); n != 4096 || why != api.OK {
		t.Errorf("Longest of 4096 free pages: %d, error %d", n, why)
	}
}

// TestLongestAnywhere: the longest run may be the first one, one in the middle, and the last one.
func TestLongestAnywhere(t *testing.T) {
	full := slices.Repeat([]bool{true}, 200)
	for _, x := range [][2]int{{0, 100}, {0, 10}, {1, 64}, {60, 10}, {63, 1}, {64, 64}, {150, 49}, {150, 50}, {199, 1}, {0, 200}} {
		l := changed(full, x[0], x[1], false)
		if n, why := pages.Longest(of(l)); n != x[1] || why != api.OK {
			t.Errorf("Longest, if the %d pages from %d on are free: %d, error %d", x[1], x[0], n, why)
		}
	}
}

// Examples

// TestChapterExamples are those of 3.1 to 3.3, one after the other.
func TestChapterExamples(t *testing.T) {
	p, why := pages.Make(8)
	if why != api.OK || !same(p, of(make([]bool, 8))) {
		t.Fatal("Make:", p, why)
	}
	take := func(n, want int) {
		t.Helper()
		q, at, why := pages.Take(p, n)
		if at != want || why != api.OK {
			t.Fatalf("Take(%d): %d, error %d; want %d", n, at, why, want)
		}
		p = q
	}
	give := func(first, n int, want api.Errno) {
		t.Helper()
		q, why := pages.Give(p, first, n)
		if why != want || why != api.OK && !same(p, q) {
			t.Fatalf("Give(%d, %d): %v, error %d; want %d", first, n, q, why, want)
		}
		p = q
	}
	take(2, 0)
	take(3, 2)
	take(1, 5)
	give(2, 3, api.OK)
	give(2, 1, api.ErrState)
	give(1, 2, api.ErrState)
	give(7, 2, api.ErrRange)
	take(2, 2)
	take(2, 6)
	if n, why := pages.Free(p); n != 1 || why != api.OK {
		t.Error("Free:", n, why)
	}
	if n, why := pages.Longest(p); n != 1 || why != api.OK {
		t.Error("Longest:", n, why)
	}
	if q, at, why := pages.Take(p, 2); !same(p, q) || at != 0 || why != api.ErrFull {
		t.Error("Take of two pages where there is one:", q, at, why)
	}
}

// TestFourPages is the example at the end of the chapter, where two free pages are apart.
func TestFourPages(t *testing.T) {
	p, _ := pages.Make(4)
	p, first, _ := pages.Take(p, 1)
	p, second, _ := pages.Take(p, 2)
	if first != 0 || second != 1 {
		t.Fatal(first, second)
	}
	p, why := pages.Give(p, first, 1)
	if why != api.OK || !same(p, of([]bool{false, true, true, false})) {
		t.Fatal("Give:", p, why)
	}
	if q, at, why := pages.Take(p, 2); !same(p, q) || at != 0 || why != api.ErrFull {
		t.Error("Take(2):", q, at, why)
	}
	if q, at, why := pages.Take(p, 1); !same(q, of([]bool{true, true, true, false})) || at != 0 || why != api.OK {
		t.Error("Take(1):", q, at, why)
	}
}

// 3.4

// calls are all calls that answer pages, those among them that are refused too.
func calls() map[string]func(p api.Pages) api.Pages {
	take := func(n int) func(p api.Pages) api.Pages {
		return func(p api.Pages) api.Pages { q, _, _ := pages.Take(p, n); return q }
	}
	give := func(first, n int) func(p api.Pages) api.Pages {
		return func(p api.Pages) api.Pages { q, _ := pages.Give(p, first, n); return q }
	}
	return map[string]func(p api.Pages) api.Pages{
		"Make":                func(p api.Pages) api.Pages { q, _ := pages.Make(70); return q },
		"Take":                take(3),
		"Take out of range":   take(0),
		"Take of too many":    take(43),
		"Give":                give(2, 8),
		"Give out of range":   give(69, 2),
		"Give of a free page": give(10, 1),
	}
}

func TestNewMemory(t *testing.T) {
	flip := func(p api.Pages) {
		for i := range p.Used.W {
			p.Used.W[i] ^= math.MaxUint64
		}
	}
	for name, call := range calls() {
		// The words have a neighbour behind them, which a careless append would write to.
		p := mixed()
		p.Used.W = append(p.Used.W, 99)[:2]
		first := call(p)
		if !same(p, mixed()) || p.Used.W[:3][2] != 99 {
			t.Error(name, "changes an argument")
		}
		second := call(p)
		kept := slices.Clone(second.Used.W)
		flip(first)
		if !same(p, mixed()) {
			t.Error(name, "answers an argument's memory")
		}
		if !slices.Equal(second.Used.W, kept) {
			t.Error(name, "answers the same memory twice")
		}
		flip(p)
		if !slices.Equal(second.Used.W, kept) {
			t.Error(name, "keeps an argument's memory")
		}
	}
}

func TestReadersChangeNothing(t *testing.T) {
	p := mixed()
	pages.Check(p)
	pages.Free(p)
	pages.Longest(p)
	if !same(p, mixed()) {
		t.Error(p)
	}
}

// 3.5

func TestThereAndBack(t *testing.T) {
	for _, l := range sample.Patterns(1, 8, 64, 70, 200) {
		for n := 1; n <= longest(l); n++ {
			taken, at, why := pages.Take(of(l), n)
			if why != api.OK {
				t.Fatalf("Take of %v, %d: error %d", of(l), n, why)
			}
			if p, why := pages.Give(taken, at, n); !same(p, of(l)) || why != api.OK {
				t.Fatalf("Give of %v, %d, %d: %v, error %d; want %v", taken, at, n, p, why, of(l))
			}
		}
	}
}

// 3.6

func TestApart(t *testing.T) {
	for _, l := range sample.Patterns(8, 64, 70, 200) {
		p := of(l)
		had := slices.Clone(l)
		for _, n := range []int{2, 5, 1, 3, 7, 1, 2, 60, 4, 1, 1, 1, 9, 2} {
			q, at, why := pages.Take(p, n)
			if why != api.OK {
				continue
			}
			if !alike(had, at, n, false) {
				t.Fatalf("Take of %v, %d: %d, where not all were free", p, n, at)
			}
			had = changed(had, at, n, true)
			p = q
		}
		if !same(p, of(had)) {
			t.Fatalf("%v, where %v are in use", p, of(had))
		}
	}
}

// 3.7

func TestFull(t *testing.T) {
	for _, l := range sample.Patterns(0, 1, 8, 64, 70, 200, 4096) {
		most, _ := pages.Longest(of(l))
		for _, n := range []int{1, 2, most - 1, most, most + 1, most + 2, most + 64, len(l), 4096, 4097, math.MaxInt} {
			if n < 1 {
				continue
			}
			if _, _, why := pages.Take(of(l), n); (why == api.ErrFull) != (n > most) {
				t.Errorf("Take of %d pages, %d, where Longest is %d: error %d", len(l), n, most, why)
			}
		}
	}
}

// The document's rules

// TestNilIsEmpty: a nil list and an empty one are the same to every call (P1).
func TestNilIsEmpty(t *testing.T) {
	for _, w := range [][]uint64{nil, {}, make([]uint64, 0, 8)} {
		p := api.Pages{Used: api.Bits{W: w}}
		if why := pages.Check(p); why != api.OK {
			t.Error("Check:", why)
		}
		if q, at, why := pages.Take(p, 1); !empty(q) || at != 0 || why != api.ErrFull {
			t.Error("Take:", q, at, why)
		}
		if q, why := pages.Give(p, 0, 1); !empty(q) || why != api.ErrRange {
			t.Error("Give:", q, why)
		}
		if n, why := pages.Free(p); n != 0 || why != api.OK {
			t.Error("Free:", n, why)
		}
		if n, why := pages.Longest(p); n != 0 || why != api.OK {
			t.Error("Longest:", n, why)
		}
	}
}

// TestArgumentsAlone: the same arguments have the same answers, whatever came before and whatever room is behind them (P3).
func TestArgumentsAlone(t *testing.T) {
	roomy := mixed()
	roomy.Used.W = append(make([]uint64, 0, 64), roomy.Used.W...)
	for name, call := range calls() {
		want := call(mixed())
		if got := call(roomy); !same(got, want) {
			t.Error(name, "of roomy words:", got, want)
		}
		if got := call(mixed()); !same(got, want) {
			t.Error(name, "once more:", got, want)
		}
	}
}

// TestNoGoroutine: when a call has answered, no goroutine of it is left (P4).
func TestNoGoroutine(t *testing.T) {
	before := runtime.NumGoroutine()
	for _, call := range calls() {
		call(mixed())
	}
	pages.Check(mixed())
	pages.Free(mixed())
	pages.Longest(mixed())
	// Fewer are no fault: the goroutine of an earlier test may have ended meanwhile.
	if after := runtime.NumGoroutine(); after > before {
		t.Errorf("%d goroutines, and %d before", after, before)
	}
}
