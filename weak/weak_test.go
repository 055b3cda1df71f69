package weak_test

import (
	"math"
	"runtime"
	"slices"
	"testing"

	"besom/api"
	"besom/sample"
	"besom/weak"
)

// addrs are addresses at, between and next to those of the tables, and at the ends of their type.
func addrs() []uint64 {
	return []uint64{0, 1, 2, 5, 15, 16, 17, 20, 21, 40, 78, 79, 80, 1 << 32, 1<<32 + 16, 1 << 63, math.MaxUint64 - 1, math.MaxUint64}
}

func handles() []int {
	out := sample.Ints()
	for i := -3; i < 70; i++ {
		out = append(out, i)
	}
	return append(out, 128, 256, 1<<32+1, math.MinInt+2)
}

// lists are lists of addresses to clear.
func lists() [][]uint64 {
	return [][]uint64{
		nil, {}, {0}, {16}, {99}, {16, 99, 0}, {0, 0, 16, 16, 16}, {20, 16}, {16, 20}, {math.MaxUint64}, {1, 1 << 63, 16, 1 << 32},
		{79, 40, 41, 16, 17, 18, 16}, slices.Repeat([]uint64{20, 0, 21}, 500), addrs(),
	}
}

// valid follows the chapter's words.
func valid(t []uint64) bool {
	times := map[uint64]int{}
	for _, addr := range t {
		times[addr]++
		if addr != 0 && times[addr] > 1 {
			return false
		}
	}
	return len(t) <= 64
}

// handleOf is the number of the element that is an address, from 1 on, or 0.
func handleOf(t []uint64, addr uint64) int {
	for i, a := range t {
		if a == addr && addr != 0 {
			return i + 1
		}
	}
	return 0
}

// made is what Make answers by the chapter's words.
func made(t []uint64, addr uint64) ([]uint64, int, api.Errno) {
	old := handleOf(t, addr)
	switch {
	case addr == 0:
		return t, 0, api.ErrNil
	case old > 0:
		return t, old, api.OK
	case len(t) == 64:
		return t, 0, api.ErrFull
	}
	return append(slices.Clone(t), addr), len(t) + 1, api.OK
}

// cleared is what Clear answers by the chapter's words.
func cleared(t []uint64, addrs []uint64) ([]uint64, []int) {
	out := slices.Clone(t)
	gone := map[int]bool{}
	for _, addr := range addrs {
		if h := handleOf(t, addr); h > 0 {
			out[h-1] = 0
			gone[h] = true
		}
	}
	var l []int
	for h := range 65 {
		if gone[h] {
			l = append(l, h)
		}
	}
	return out, l
}

// TestSampleIsValid: the tables of the sample are what they are said to be, by the chapter's words.
func TestSampleIsValid(t *testing.T) {
	for i, table := range sample.WeakTables() {
		if !valid(table) {
			t.Errorf("table %d is not valid", i)
		}
	}
	for i, table := range sample.BadWeakTables() {
		if valid(table) {
			t.Errorf("invalid table %d is valid", i)
		}
	}
}

// 9.1

func TestCheck(t *testing.T) {
	for i, table := range sample.WeakTables() {
		if why := weak.Check(table); why != api.OK {
			t.Errorf("Check of table %d: error %d", i, why)
		}
	}
	for i, table := range sample.BadWeakTables() {
		if why := weak.Check(table); why != api.ErrForm {
			t.Errorf("Check of invalid table %d: error %d", i, why)
		}
	}
}

// TestCheckOne: whatever one element of a table is replaced by, Check answers what the chapter's words say.
func TestCheckOne(t *testing.T) {
	for _, table := range sample.WeakTables() {
		table = slices.Clone(table)
		for i, was := range table {
			for _, addr := range append(addrs(), table...) {
				table[i] = addr
				if why := weak.Check(table); (why == api.OK) != valid(table) || why != api.OK && why != api.ErrForm {
					t.Fatalf("Check of %d: error %d", table, why)
				}
				table[i] = was
			}
		}
	}
}

func TestInvalidComesFirst(t *testing.T) {
	for i, table := range sample.BadWeakTables() {
		refused := func(name string, zero bool, why api.Errno) {
			t.Helper()
			if !zero || why != api.ErrForm {
				t.Errorf("%s of invalid table %d: error %d", name, i, why)
			}
		}
		for _, addr := range addrs() {
			out, handle, why := weak.Make(table, addr)
			refused("Make", len(out) == 0 && handle == 0, why)
			handle, why = weak.Handle(table, addr)
			refused("Handle", handle == 0, why)
		}
		for _, handle := range handles() {
			addr, why := weak.Get(table, handle)
			refused("Get", addr == 0, why)
		}
		for _, l := range lists() {
			out, gone, why := weak.Clear(table, l...)
			refused("Clear", len(out) == 0 && len(gone) == 0, why)
		}
	}
}

func TestMake(t *testing.T) {
	for i, table := range sample.WeakTables() {
		for _, addr := range append(addrs(), table...) {
			want, handle, no := made(table, addr)
			if out, h, why := weak.Make(table, addr); !slices.Equal(out, want) || h != handle || why != no {
				t.Errorf("Make in table %d, %d: %d, %d, error %d; want %d, %d, %d", i, addr, out, h, why, want, handle, no)
			}
		}
	}
}

// TestMakeTillFull: handles are numbered one after the other, till the table has 64; only what needs a new one is refused then.
func TestMakeTillFull(t *testing.T) {
	var table []uint64
	for i := range 64 {
		out, handle, why := weak.Make(table, uint64(1000-i))
		if handle != i+1 || why != api.OK {
			t.Fatalf("Make number %d: %d, error %d", i+1, handle, why)
		}
		table = out
	}
	for _, x := range []struct {
		addr   uint64
		handle int
		want   api.Errno
	}{{1, 0, api.ErrFull}, {1001, 0, api.ErrFull}, {math.MaxUint64, 0, api.ErrFull}, {0, 0, api.ErrNil}, {1000, 1, api.OK}, {937, 64, api.OK}} {
		if out, handle, why := weak.Make(table, x.addr); !slices.Equal(out, table) || handle != x.handle || why != x.want {
			t.Errorf("Make of %d in 64: %d, error %d; want %d, %d", x.addr, handle, why, x.handle, x.want)
		}
	}
	empty, _, _ := weak.Clear(table, table...)
	if out, handle, why := weak.Make(empty, 1000); !slices.Equal(out, make([]uint64, 64)) || handle != 0 || why != api.ErrFull {
		t.Errorf("Make in 64 that refer to 0: %d, error %d", handle, why)
	}
}

func TestGet(t *testing.T) {
	for i, table := range sample.WeakTables() {
		for _, handle := range handles() {
			want, no := uint64(0), api.ErrNone
			if handle >= 1 && handle <= len(table) {
				want, no = table[handle-1], api.OK
			}
			if addr, why := weak.Get(table, handle); addr != want || why != no {
				t.Errorf("Get in table %d, %d: %d, error %d; want %d, %d", i, handle, addr, why, want, no)
			}
		}
	}
}

func TestHandle(t *testing.T) {
	for i, table := range sample.WeakTables() {
		for _, addr := range append(addrs(), table...) {
			want, no := handleOf(table, addr), api.OK
			if want == 0 {
				no = api.ErrNone
			}
			if addr == 0 {
				no = api.ErrNil
			}
			if handle, why := weak.Handle(table, addr); handle != want || why != no {
				t.Errorf("Handle in table %d, %d: %d, error %d; want %d, %d", i, addr, handle, why, want, no)
			}
		}
	}
}

// 9.2

func TestClear(t *testing.T) {
	for i, table := range sample.WeakTables() {
		back := slices.Clone(table)
		slices.Reverse(back)
		for k, l := range append(lists(), table, back) {
			want, gone := cleared(table, l)
			if out, handles, why := weak.Clear(table, l...); !slices.Equal(out, want) || !slices.Equal(handles, gone) || why != api.OK {
				t.Errorf("Clear in table %d, list %d: %d, %d, error %d; want %d, %d", i, k, out, handles, why, want, gone)
			}
		}
	}
}

// Examples

func TestChapterExamples(t *testing.T) {
	if why := weak.Check([]uint64{5, 0, 0, 5}); why != api.ErrForm {
		t.Error("Check of 5, 0, 0, 5:", why)
	}
	var table []uint64
	steps := func(addr uint64, want int) {
		t.Helper()
		out, handle, why := weak.Make(table, addr)
		if handle != want || why != api.OK {
			t.Error("Make:", addr, handle, why)
		}
		table = out
	}
	steps(16, 1)
	steps(20, 2)
	steps(16, 1)
	for _, handle := range []int{0, -1} {
		if addr, why := weak.Get(table, handle); addr != 0 || why != api.ErrNone {
			t.Error("Get:", handle, addr, why)
		}
	}
	out, gone, why := weak.Clear(table, 16, 99, 0)
	if !slices.Equal(gone, []int{1}) || why != api.OK {
		t.Error("Clear:", gone, why)
	}
	table = out
	steps(16, 3)
	for i, want := range []uint64{0, 20, 16} {
		if addr, why := weak.Get(table, i+1); addr != want || why != api.OK {
			t.Error("Get:", i+1, addr, why)
		}
	}
}

// TestThirdHandle is the example at the end of the chapter, and the fifth one of the whole.
func TestThirdHandle(t *testing.T) {
	var got []int
	var table []uint64
	for _, addr := range []uint64{16, 32, 16} {
		out, handle, _ := weak.Make(table, addr)
		table, got = out, append(got, handle)
	}
	table, _, _ = weak.Clear(table, 16)
	addr, why := weak.Get(table, 1)
	_, third, no := weak.Make(table, 16)
	if !slices.Equal(got, []int{1, 2, 1}) || addr != 0 || why != api.OK || third != 3 || no != api.OK {
		t.Error(got, addr, why, third, no)
	}
}

// 9.3

// answer is what a call answers that may share memory.
type answer struct {
	table   []uint64
	handles []int
}

// calls are all calls that answer lists, those among them that are refused too.
func calls() map[string]func(t, addrs []uint64) answer {
	makes := func(addr uint64) func(t, addrs []uint64) answer {
		return func(t, addrs []uint64) answer {
			out, _, _ := weak.Make(t, addr)
			return answer{table: out}
		}
	}
	clears := func(t, addrs []uint64) answer {
		out, handles, _ := weak.Clear(t, addrs...)
		return answer{out, handles}
	}
	return map[string]func(t, addrs []uint64) answer{
		"Make":               makes(7),
		"Make of what is in": makes(20),
		"Make of 0":          makes(0),
		"Make without space": func(t, addrs []uint64) answer {
			return makes(7)(append(make([]uint64, 61), t...), addrs)
		},
		"Clear":          clears,
		"Clear of none":  func(t, addrs []uint64) answer { return clears(t, nil) },
		"Clear of all":   func(t, addrs []uint64) answer { return clears(t, t) },
		"Clear of a few": func(t, addrs []uint64) answer { return clears(t, addrs[:1]) },
	}
}

func chapter() []uint64 { return []uint64{0, 20, 16} }
func some() []uint64    { return []uint64{16, 99, 0} }

// roomy returns the list in memory that goes on behind it, where a careless append would write to.
func roomy(l []uint64) []uint64 {
	return append(l, 77)[:len(l)]
}

func (a answer) copy() answer {
	return answer{slices.Clone(a.table), slices.Clone(a.handles)}
}

func (a answer) same(b answer) bool {
	return slices.Equal(a.table, b.table) && slices.Equal(a.handles, b.handles)
}

func (a answer) spoil() {
	for i := range a.table {
		a.table[i] += 1000
	}
	for i := range a.handles {
		a.handles[i] += 1000
	}
}

func TestNewMemory(t *testing.T) {
	for name, call := range calls() {
		table, l := roomy(chapter()), roomy(some())
		first := call(table, l)
		if !slices.Equal(table, chapter()) || !slices.Equal(l, some()) || table[:4][3] != 77 || l[:4][3] != 77 {
			t.Error(name, "changes an argument")
		}
		second := call(table, l)
		if len(second.table) == 0 {
			t.Error(name, "answers nothing")
		}
		kept := second.copy()
		first.spoil()
		if !slices.Equal(table, chapter()) || !slices.Equal(l, some()) {
			t.Error(name, "answers an argument's memory")
		}
		if !second.same(kept) {
			t.Error(name, "answers the same memory twice")
		}
		answer{table: table}.spoil()
		answer{table: l}.spoil()
		if !second.same(kept) {
			t.Error(name, "keeps an argument's memory")
		}
	}
}

// TestAnswersApart: a change of what a call answers does not change the table, whichever table it is.
func TestAnswersApart(t *testing.T) {
	for i, table := range sample.WeakTables() {
		want := slices.Clone(table)
		for _, addr := range append(addrs(), want...) {
			out, _, _ := weak.Make(table, addr)
			answer{table: out}.spoil()
			out, handles, _ := weak.Clear(table, addr)
			answer{out, handles}.spoil()
			if !slices.Equal(table, want) {
				t.Fatalf("table %d, %d: an answer shares its memory", i, addr)
			}
		}
	}
}

func TestReadersChangeNothing(t *testing.T) {
	table := roomy(chapter())
	weak.Check(table)
	for _, addr := range addrs() {
		weak.Handle(table, addr)
	}
	for _, handle := range handles() {
		weak.Get(table, handle)
	}
	if !slices.Equal(table, chapter()) || table[:4][3] != 77 {
		t.Error(table)
	}
}

// 9.4 and 9.5

// TestForEver: whatever is made and cleared, a handle refers to the address it was made of until that is cleared, and to 0 for ever then.
func TestForEver(t *testing.T) {
	state := uint64(5)
	pick := func(n int) uint64 {
		state = state*6364136223846793005 + 1442695040888963407
		return state >> 33 % uint64(n)
	}
	for range 60 {
		var table, refers []uint64
		for range 300 {
			addr, more := pick(12)*0x1555_5555_5555_5555, pick(12)*0x1555_5555_5555_5555
			if pick(3) > 0 {
				out, handle, why := weak.Make(table, addr)
				if why == api.OK && handle > len(refers) {
					refers = append(refers, addr)
				}
				table = out
			} else {
				out, _, _ := weak.Clear(table, addr, more)
				for i, a := range refers {
					if a == addr || a == more {
						refers[i] = 0
					}
				}
				table = out
			}
			refer(t, table, refers)
		}
	}
}

// refer tests that the handles refer to these addresses.
func refer(t *testing.T, table, want []uint64) {
	t.Helper()
	if why := weak.Check(table); why != api.OK {
		t.Fatalf("Check of %d: error %d", table, why)
	}
	for i, addr := range want {
		if got, why := weak.Get(table, i+1); got != addr || why != api.OK {
			t.Fatalf("Get of %d: %d, error %d; want %d", i+1, got, why, addr)
		}
		if handle, why := weak.Handle(table, addr); addr != 0 && (handle != i+1 || why != api.OK) {
			t.Fatalf("Handle of %d: %d, error %d; want %d", addr, handle, why, i+1)
		}
	}
	if _, why := weak.Get(table, len(want)+1); why != api.ErrNone {
		t.Fatalf("Get of %d: error %d", len(want)+1, why)
	}
}

// The document's rules

// TestNilIsEmpty: a nil list and an empty one are the same to every call (P1).
func TestNilIsEmpty(t *testing.T) {
	for _, table := range [][]uint64{nil, {}, make([]uint64, 0, 8)} {
		if why := weak.Check(table); why != api.OK {
			t.Error("Check:", why)
		}
		if out, handle, why := weak.Make(table, 0); len(out) != 0 || handle != 0 || why != api.ErrNil {
			t.Error("Make of 0:", out, handle, why)
		}
		if out, handle, why := weak.Make(table, 16); !slices.Equal(out, []uint64{16}) || handle != 1 || why != api.OK {
			t.Error("Make:", out, handle, why)
		}
		if addr, why := weak.Get(table, 1); addr != 0 || why != api.ErrNone {
			t.Error("Get:", addr, why)
		}
		if handle, why := weak.Handle(table, 16); handle != 0 || why != api.ErrNone {
			t.Error("Handle:", handle, why)
		}
		for _, l := range [][]uint64{nil, {}, {16}} {
			if out, gone, why := weak.Clear(table, l...); len(out) != 0 || len(gone) != 0 || why != api.OK {
				t.Error("Clear:", out, gone, why)
			}
			if out, gone, why := weak.Clear(chapter(), l[:0]...); !slices.Equal(out, chapter()) || len(gone) != 0 || why != api.OK {
				t.Error("Clear of none:", out, gone, why)
			}
		}
	}
}

// TestArgumentsAlone: the same arguments have the same answers, whatever came before and whatever room is behind them (P3).
func TestArgumentsAlone(t *testing.T) {
	for name, call := range calls() {
		want := call(chapter(), some())
		if got := call(roomy(chapter()), roomy(some())); !got.same(want) {
			t.Error(name, "of a roomy table:", got, want)
		}
		if got := call(chapter(), some()); !got.same(want) {
			t.Error(name, "once more:", got, want)
		}
	}
}

// TestNoGoroutine: when a call has answered, no goroutine of it is left (P4).
func TestNoGoroutine(t *testing.T) {
	before := runtime.NumGoroutine()
	for _, call := range calls() {
		call(chapter(), some())
	}
	weak.Check(chapter())
	weak.Get(chapter(), 2)
	weak.Handle(chapter(), 20)
	// Fewer are no fault: the goroutine of an earlier test may have ended meanwhile.
	if after := runtime.NumGoroutine(); after > before {
		t.Errorf("%d goroutines, and %d before", after, before)
	}
}
