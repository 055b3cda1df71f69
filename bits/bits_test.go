package bits_test

import (
	"math"
	"runtime"
	"slices"
	"strconv"
	"testing"

	"besom/api"
	"besom/bits"
	"besom/sample"
)

const ones = math.MaxUint64

func empty(b api.Bits) bool {
	return b.N == 0 && len(b.W) == 0
}

// chapter is the vector of the chapter's examples: 70 bits, of which 0, 3, 63, 64 and 69 are 1.
func chapter() api.Bits {
	return api.Bits{N: 70, W: []uint64{1 | 1<<3 | 1<<63, 1 | 1<<5}}
}

// 1.1

func TestCheck(t *testing.T) {
	valid := []api.Bits{
		{},
		{W: []uint64{}},
		{N: 1, W: []uint64{0}},
		{N: 1, W: []uint64{1}},
		{N: 4, W: []uint64{15}},
		{N: 5, W: []uint64{16}},
		{N: 63, W: []uint64{ones >> 1}},
		{N: 64, W: []uint64{ones}},
		{N: 65, W: []uint64{ones, 1}},
		{N: 128, W: []uint64{ones, ones}},
		chapter(),
		{N: 4095, W: append(slices.Repeat([]uint64{ones}, 63), ones>>1)},
		{N: 4096, W: slices.Repeat([]uint64{ones}, 64)},
	}
	for i, b := range valid {
		if why := bits.Check(b); why != api.OK {
			t.Errorf("valid vector %d: error %d", i, why)
		}
	}
	for i, b := range sample.BadBits() {
		if why := bits.Check(b); why != api.ErrForm {
			t.Errorf("invalid vector %d: error %d", i, why)
		}
	}
}

func TestMake(t *testing.T) {
	for _, n := range []int{0, 1, 2, 63, 64, 65, 70, 127, 128, 129, 4095, 4096} {
		b, why := bits.Make(n)
		if why != api.OK || !sample.SameBits(b, sample.Pack(make([]bool, n))) {
			t.Errorf("Make(%d): %v, error %d", n, b, why)
		}
	}
	for _, n := range sample.Ints() {
		if b, why := bits.Make(n); why != api.ErrRange || !empty(b) {
			t.Errorf("Make(%d): %v, error %d", n, b, why)
		}
	}
}

func TestChapterVectorIsMadeByPut(t *testing.T) {
	b, why := bits.Make(70)
	if why != api.OK || len(b.W) != 2 {
		t.Fatal("Make:", b, why)
	}
	for _, i := range []int{0, 3, 63, 64, 69} {
		if b, why = bits.Put(b, i, true); why != api.OK {
			t.Error("Put:", i, why)
		}
	}
	if !sample.SameBits(b, chapter()) {
		t.Error(b)
	}
	if v, why := bits.Get(b, 3); !v || why != api.OK {
		t.Error("Get:", v, why)
	}
}

func TestGet(t *testing.T) {
	for _, l := range sample.Patterns(0, 1, 2, 63, 64, 65, 70, 128, 4096) {
		b := sample.Pack(l)
		for i := range l {
			if v, why := bits.Get(b, i); v != l[i] || why != api.OK {
				t.Fatalf("Get(%v, %d): %t, error %d", b, i, v, why)
			}
		}
		for _, i := range append(sample.Ints(), len(l), len(l)+1) {
			if v, why := bits.Get(b, i); v || why != api.ErrRange {
				t.Fatalf("Get(%v, %d): %t, error %d", b, i, v, why)
			}
		}
	}
}

func TestPut(t *testing.T) {
	for _, l := range sample.Patterns(0, 1, 2, 63, 64, 65, 70, 128, 4096) {
		for _, v := range []bool{true, false} {
			for i := range l {
				want := slices.Clone(l)
				want[i] = v
				if c, why := bits.Put(sample.Pack(l), i, v); why != api.OK || !sample.SameBits(c, sample.Pack(want)) {
					t.Fatalf("Put of %d bits, %d, %t: %v, error %d", len(l), i, v, c, why)
				}
			}
			for _, i := range append(sample.Ints(), len(l), len(l)+1) {
				if c, why := bits.Put(sample.Pack(l), i, v); why != api.ErrRange || !sample.SameBits(c, sample.Pack(l)) {
					t.Fatalf("Put of %d bits, %d, %t: %v, error %d", len(l), i, v, c, why)
				}
			}
		}
	}
}

func TestInvalidComesFirst(t *testing.T) {
	good := chapter()
	for i, b := range sample.BadBits() {
		for _, n := range append(sample.Ints(), 0, 1, 64, 70) {
			for _, v := range []bool{true, false} {
				name := "vector " + strconv.Itoa(i) + ", " + strconv.Itoa(n)
				if x, why := bits.Get(b, n); x || why != api.ErrForm {
					t.Error("Get:", name, x, why)
				}
				if x, why := bits.Put(b, n, v); !empty(x) || why != api.ErrForm {
					t.Error("Put:", name, x, why)
				}
				if x, why := bits.Fill(b, n, n, v); !empty(x) || why != api.ErrForm {
					t.Error("Fill:", name, x, why)
				}
				if x, why := bits.First(b, n, v); x != 0 || why != api.ErrForm {
					t.Error("First:", name, x, why)
				}
				if x, why := bits.Run(b, n); x != 0 || why != api.ErrForm {
					t.Error("Run:", name, x, why)
				}
			}
		}
		if x, why := bits.Count(b); x != 0 || why != api.ErrForm {
			t.Error("Count:", i, x, why)
		}
		like := api.Bits{N: b.N, W: slices.Clone(b.W)}
		for _, pair := range [][2]api.Bits{{b, good}, {good, b}, {b, like}, {b, {}}, {{}, b}} {
			if x, why := bits.Both(pair[0], pair[1]); !empty(x) || why != api.ErrForm {
				t.Error("Both:", i, x, why)
			}
		}
	}
}

// 1.2

func TestFill(t *testing.T) {
	for _, l := range sample.Patterns(0, 1, 2, 64, 65, 70, 129) {
		for _, v := range []bool{true, false} {
			for from := 0; from <= len(l); from++ {
				for n := 0; n <= len(l)-from; n++ {
					want := slices.Clone(l)
					for i := range n {
						want[from+i] = v
					}
					if c, why := bits.Fill(sample.Pack(l), from, n, v); why != api.OK || !sample.SameBits(c, sample.Pack(want)) {
						t.Fatalf("Fill of %d bits, %d, %d, %t: %v, error %d", len(l), from, n, v, c, why)
					}
				}
			}
		}
	}
	c, why := bits.Fill(sample.Pack(make([]bool, 4096)), 0, 4096, true)
	if why != api.OK || !sample.SameBits(c, api.Bits{N: 4096, W: slices.Repeat([]uint64{ones}, 64)}) {
		t.Error("Fill of 4096 bits: error", why)
	}
}

func TestFillOutOfRange(t *testing.T) {
	for _, l := range sample.Patterns(0, 1, 64, 70) {
		size := len(l)
		wrong := [][2]int{{size, 1}, {0, size + 1}, {size + 1, 0}, {size + 1, -1}, {size, -1}, {-1, 0}, {-1, 1}, {-1, 2}, {-1, size}, {0, -1}, {1, -1}, {1, size}}
		for _, n := range sample.Ints() {
			wrong = append(wrong, [2]int{n, 0}, [2]int{0, n}, [2]int{n, n}, [2]int{n, 1}, [2]int{n, -n}, [2]int{size, n}, [2]int{n, math.MaxInt}, [2]int{n, math.MinInt}, [2]int{n, size - n})
		}
		for _, x := range wrong {
			for _, v := range []bool{true, false} {
				if c, why := bits.Fill(sample.Pack(l), x[0], x[1], v); why != api.ErrRange || !sample.SameBits(c, sample.Pack(l)) {
					t.Errorf("Fill of %d bits, %d, %d, %t: %v, error %d", size, x[0], x[1], v, c, why)
				}
			}
		}
	}
}

func TestCount(t *testing.T) {
	for _, l := range sample.Patterns(0, 1, 2, 63, 64, 65, 70, 128, 4095, 4096) {
		want := 0
		for _, v := range l {
			if v {
				want++
			}
		}
		if n, why := bits.Count(sample.Pack(l)); n != want || why != api.OK {
			t.Errorf("Count of %d bits: %d, error %d; want %d", len(l), n, why, want)
		}
	}
}

func TestFirst(t *testing.T) {
	for _, l := range sample.Patterns(0, 1, 2, 63, 64, 65, 70, 129, 200) {
		for _, v := range []bool{true, false} {
			for from := 0; from <= len(l); from++ {
				at, none := 0, api.ErrNone
				if i := slices.Index(l[from:], v); i >= 0 {
					at, none = from+i, api.OK
				}
				if i, why := bits.First(sample.Pack(l), from, v); i != at || why != none {
					t.Fatalf("First of %d bits, %d, %t: %d, error %d; want %d, %d", len(l), from, v, i, why, at, none)
				}
			}
			for _, from := range append(sample.Ints(), len(l)+1, len(l)+64) {
				if i, why := bits.First(sample.Pack(l), from, v); i != 0 || why != api.ErrRange {
					t.Fatalf("First of %d bits, %d, %t: %d, error %d", len(l), from, v, i, why)
				}
			}
		}
	}
}

// zeros reports whether l has n bits from bit from on, all 0.
func zeros(l []bool, from, n int) bool {
	return n <= len(l)-from && !slices.Contains(l[from:from+n], true)
}

func TestRun(t *testing.T) {
	for _, l := range sample.Patterns(0, 1, 2, 63, 64, 65, 70, 129, 200) {
		for n := 1; n <= len(l)+2; n++ {
			at, none := 0, api.ErrNone
			for i := range l {
				if zeros(l, i, n) {
					at, none = i, api.OK
					break
				}
			}
			if i, why := bits.Run(sample.Pack(l), n); i != at || why != none {
				t.Fatalf("Run of %d bits, %d: %d, error %d; want %d, %d", len(l), n, i, why, at, none)
			}
		}
		for _, n := range append(sample.Ints(), 0) {
			want := api.ErrRange
			if n > 0 {
				want = api.ErrNone
			}
			if i, why := bits.Run(sample.Pack(l), n); i != 0 || why != want {
				t.Fatalf("Run of %d bits, %d: %d, error %d", len(l), n, i, why)
			}
		}
	}
	if i, why := bits.Run(sample.Pack(make([]bool, 4096)), 4096); i != 0 || why != api.OK {
		t.Error("Run of 4096 bits:", i, why)
	}
}

func TestBoth(t *testing.T) {
	for _, n := range []int{0, 1, 2, 64, 65, 70, 129, 4096} {
		for _, a := range sample.Patterns(n) {
			for _, b := range sample.Patterns(n) {
				want := make([]bool, n)
				for i := range want {
					want[i] = a[i] && b[i]
				}
				if c, why := bits.Both(sample.Pack(a), sample.Pack(b)); why != api.OK || !sample.SameBits(c, sample.Pack(want)) {
					t.Fatalf("Both of %d bits: %v, error %d", n, c, why)
				}
			}
		}
	}
}

func TestBothOfDifferentLengths(t *testing.T) {
	for _, x := range [][2]int{{0, 1}, {1, 0}, {69, 70}, {70, 69}, {64, 65}, {128, 64}, {1, 4096}} {
		a, b := sample.Pack(make([]bool, x[0])), sample.Pack(make([]bool, x[1]))
		if c, why := bits.Both(a, b); !empty(c) || why != api.ErrForm {
			t.Errorf("Both of %d and %d bits: %v, error %d", x[0], x[1], c, why)
		}
	}
}

func TestChapterExamples(t *testing.T) {
	b := chapter()
	if n, why := bits.Count(b); n != 5 || why != api.OK {
		t.Error("Count:", n, why)
	}
	c, why := bits.Fill(b, 60, 10, false)
	if n, _ := bits.Count(c); n != 2 || why != api.OK {
		t.Error("Fill:", n, why)
	}
	d, why := bits.Both(b, c)
	if n, _ := bits.Count(d); n != 2 || why != api.OK {
		t.Error("Both:", n, why)
	}
	for _, x := range []struct {
		from int
		v    bool
		at   int
		why  api.Errno
	}{{4, true, 63, api.OK}, {64, false, 65, api.OK}, {70, true, 0, api.ErrNone}, {70, false, 0, api.ErrNone}, {71, true, 0, api.ErrRange}} {
		if at, why := bits.First(b, x.from, x.v); at != x.at || why != x.why {
			t.Errorf("First(%d, %t): %d, error %d", x.from, x.v, at, why)
		}
	}
	for _, x := range []struct {
		n, at int
		why   api.Errno
	}{{2, 1, api.OK}, {3, 4, api.OK}, {59, 4, api.OK}, {60, 0, api.ErrNone}} {
		if at, why := bits.Run(b, x.n); at != x.at || why != x.why {
			t.Errorf("Run(%d): %d, error %d", x.n, at, why)
		}
	}
}

// TestFourBits is the first of the chapter's examples, and of the whole document's ten.
func TestFourBits(t *testing.T) {
	b := api.Bits{N: 4, W: []uint64{6}}
	if at, why := bits.First(b, 0, true); at != 1 || why != api.OK {
		t.Error("First:", at, why)
	}
	if at, why := bits.Run(b, 2); at != 0 || why != api.ErrNone {
		t.Error("Run(2):", at, why)
	}
	if at, why := bits.Run(b, 1); at != 0 || why != api.OK {
		t.Error("Run(1):", at, why)
	}
	if n, why := bits.Count(b); n != 2 || why != api.OK {
		t.Error("Count:", n, why)
	}
}

// 1.3

// calls are all calls that answer a vector, those among them that are refused too.
func calls() map[string]func(a, b api.Bits) api.Bits {
	put := func(i int, v bool) func(a, b api.Bits) api.Bits {
		return func(a, b api.Bits) api.Bits { c, _ := bits.Put(a, i, v); return c }
	}
	fill := func(from, n int, v bool) func(a, b api.Bits) api.Bits {
		return func(a, b api.Bits) api.Bits { c, _ := bits.Fill(a, from, n, v); return c }
	}
	return map[string]func(a, b api.Bits) api.Bits{
		"Make":                func(a, b api.Bits) api.Bits { c, _ := bits.Make(70); return c },
		"Put 1":               put(1, true),
		"Put 1 over 1":        put(0, true),
		"Put 0":               put(0, false),
		"Put out of range":    put(70, true),
		"Put below the range": put(-1, true),
		"Fill":                fill(2, 67, true),
		"Fill with 0":         fill(0, 70, false),
		"Fill nothing":        fill(70, 0, true),
		"Fill out of range":   fill(60, 11, true),
		"Both":                func(a, b api.Bits) api.Bits { c, _ := bits.Both(a, b); return c },
		"Both, the same":      func(a, b api.Bits) api.Bits { c, _ := bits.Both(a, a); return c },
	}
}

func flip(l []uint64) {
	for i := range l {
		l[i] ^= ones
	}
}

func TestNewMemory(t *testing.T) {
	for name, call := range calls() {
		// The words have a neighbour behind them, which a careless append would write to.
		a := api.Bits{N: 70, W: append(slices.Clone(chapter().W), 99)[:2]}
		b := api.Bits{N: 70, W: []uint64{1<<63 | 3, 1}}
		first := call(a, b)
		if !sample.SameBits(a, chapter()) || a.W[:3][2] != 99 || b.W[0] != 1<<63|3 || b.W[1] != 1 {
			t.Error(name, "changes an argument")
		}
		second := call(a, b)
		kept := slices.Clone(second.W)
		flip(first.W)
		if !sample.SameBits(a, chapter()) || b.W[0] != 1<<63|3 || b.W[1] != 1 {
			t.Error(name, "answers an argument's memory")
		}
		if !slices.Equal(second.W, kept) {
			t.Error(name, "answers the same memory twice")
		}
		flip(a.W)
		flip(b.W)
		if !slices.Equal(second.W, kept) {
			t.Error(name, "keeps an argument's memory")
		}
	}
}

func TestReadersChangeNothing(t *testing.T) {
	b := chapter()
	bits.Check(b)
	bits.Get(b, 3)
	bits.Count(b)
	bits.First(b, 0, false)
	bits.Run(b, 3)
	if !sample.SameBits(b, chapter()) {
		t.Error(b)
	}
}

// 1.4

func TestOneBit(t *testing.T) {
	for _, l := range sample.Patterns(1, 64, 70, 130) {
		for i := range l {
			for _, v := range []bool{true, false} {
				c, _ := bits.Put(sample.Pack(l), i, v)
				for j := range l {
					want := l[j]
					if j == i {
						want = v
					}
					if got, why := bits.Get(c, j); got != want || why != api.OK {
						t.Fatalf("bit %d after Put of bit %d: %t, error %d", j, i, got, why)
					}
				}
			}
		}
	}
}

// 1.5

func TestCounted(t *testing.T) {
	for _, l := range sample.Patterns(1, 64, 70, 4096) {
		before, _ := bits.Count(sample.Pack(l))
		for i := range l {
			for _, v := range []bool{true, false} {
				want := before
				if v && !l[i] {
					want++
				}
				if !v && l[i] {
					want--
				}
				c, _ := bits.Put(sample.Pack(l), i, v)
				if n, why := bits.Count(c); n != want || why != api.OK {
					t.Fatalf("Count after Put(%d, %t): %d, error %d; want %d", i, v, n, why, want)
				}
			}
		}
	}
}

// 1.6

func TestRunIsFirst(t *testing.T) {
	for _, l := range sample.Patterns(1, 64, 70, 200, 4096) {
		for _, n := range []int{1, 2, 3, 4, 5, 6, 7, 63, 64, 65, 200, 4096} {
			at, why := bits.Run(sample.Pack(l), n)
			if why == api.OK && !zeros(l, at, n) {
				t.Errorf("Run of %d bits, %d: %d, where not all are 0", len(l), n, at)
			}
			before := at
			if why != api.OK {
				before = len(l)
			}
			for i := range before {
				if zeros(l, i, n) {
					t.Fatalf("Run of %d bits, %d: %d, error %d, but there are some at %d", len(l), n, at, why, i)
				}
			}
		}
	}
}

// The document's rules

// TestNilIsEmpty: a nil list and an empty one are the same to every call (P1).
func TestNilIsEmpty(t *testing.T) {
	for _, b := range []api.Bits{{}, {W: []uint64{}}, {W: make([]uint64, 0, 8)}} {
		if n, why := bits.Count(b); n != 0 || why != api.OK {
			t.Error("Count:", n, why)
		}
		if at, why := bits.First(b, 0, false); at != 0 || why != api.ErrNone {
			t.Error("First:", at, why)
		}
		if at, why := bits.Run(b, 1); at != 0 || why != api.ErrNone {
			t.Error("Run:", at, why)
		}
		if v, why := bits.Get(b, 0); v || why != api.ErrRange {
			t.Error("Get:", v, why)
		}
		if c, why := bits.Put(b, 0, true); !empty(c) || why != api.ErrRange {
			t.Error("Put:", c, why)
		}
		if c, why := bits.Fill(b, 0, 0, true); !empty(c) || why != api.OK {
			t.Error("Fill:", c, why)
		}
		if c, why := bits.Both(b, api.Bits{}); !empty(c) || why != api.OK {
			t.Error("Both:", c, why)
		}
	}
}

// TestArgumentsAlone: the same arguments have the same answers, whatever came before and whatever room is behind them (P3).
func TestArgumentsAlone(t *testing.T) {
	roomy := api.Bits{N: 70, W: append(make([]uint64, 0, 64), chapter().W...)}
	for name, call := range calls() {
		want := call(chapter(), chapter())
		if got := call(roomy, chapter()); !sample.SameBits(got, want) {
			t.Error(name, "of roomy words:", got, want)
		}
		if got := call(chapter(), roomy); !sample.SameBits(got, want) {
			t.Error(name, "once more:", got, want)
		}
	}
}

// TestNoGoroutine: when a call has answered, no goroutine of it is left (P4).
func TestNoGoroutine(t *testing.T) {
	before := runtime.NumGoroutine()
	for _, call := range calls() {
		call(chapter(), chapter())
	}
	bits.Count(chapter())
	bits.First(chapter(), 0, true)
	bits.Run(chapter(), 3)
	// Fewer are no fault: the goroutine of an earlier test may have ended meanwhile.
	if after := runtime.NumGoroutine(); after > before {
		t.Errorf("%d goroutines, and %d before", after, before)
	}
}
