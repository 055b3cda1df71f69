package head_test

import (
	"math"
	"math/bits"
	"runtime"
	"testing"

	"besom/api"
	"besom/head"
	"besom/sample"
)

// chapter is the shape s of the chapter's examples: the fields 1 and 4 hold references.
func chapter() api.Shape {
	return api.Shape{N: 5, Mask: 0b10010}
}

// shapes are valid shapes of every number of fields.
func shapes() []api.Shape {
	var out []api.Shape
	for n := range 49 {
		all := uint64(1)<<n - 1
		for _, mask := range []uint64{0, 1, 2, 0x5555555555555555, 0xaaaaaaaaaaaaaaaa, 0x924924924924, 0xa500ff00a500, all, all &^ 1, all >> 1, all ^ all>>1, 1<<63 - 1<<20} {
			out = append(out, api.Shape{N: n, Mask: mask & all})
		}
	}
	return out
}

// badShapes are not valid, each for a reason of its own.
func badShapes() []api.Shape {
	bad := []api.Shape{{N: 2, Mask: 4}, {N: 1, Mask: math.MaxUint64}, {N: 47, Mask: 1 << 47}, {N: 48, Mask: 1 << 48}, {N: 48, Mask: 1 << 56}, {N: 48, Mask: 165 << 56}}
	for n := range 49 {
		bad = append(bad, api.Shape{N: n, Mask: 1 << n}, api.Shape{N: n, Mask: 1 << 63}, api.Shape{N: n, Mask: math.MaxUint64})
	}
	for _, n := range append(sample.Ints(), -48, -5, 49, 50, 63, 64, 65, 128, 255, 256, 256+5, 1<<32+5) {
		bad = append(bad, api.Shape{N: n}, api.Shape{N: n, Mask: 0b10010}, api.Shape{N: n, Mask: math.MaxUint64})
	}
	return bad
}

// masked reports whether a field of s holds a reference, as the chapter's words tell it: by the digit of the mask.
func masked(s api.Shape, field int) bool {
	mask := s.Mask
	for range field {
		mask /= 2
	}
	return mask%2 == 1
}

// word returns the header word of s, as the chapter's words tell it: the parts do not overlap, so that their sum is the word.
func word(s api.Shape) uint64 {
	return 165*(1<<56) + s.Mask*(1<<8) + uint64(s.N)
}

// wrongFields are no fields of s, those next to them first.
func wrongFields(s api.Shape) []int {
	return append(sample.Ints(), -1, s.N, s.N+1, s.N+64, s.N+256, 48, 64, 1<<32+1)
}

// 6.1

func TestCheck(t *testing.T) {
	for _, s := range shapes() {
		if why := head.Check(s); why != api.OK {
			t.Errorf("Check of %v: error %d", s, why)
		}
	}
	for _, s := range badShapes() {
		if why := head.Check(s); why != api.ErrForm {
			t.Errorf("Check of the invalid %v: error %d", s, why)
		}
	}
}

func TestPack(t *testing.T) {
	for _, s := range shapes() {
		if w, why := head.Pack(s); w != word(s) || why != api.OK {
			t.Errorf("Pack of %v: %x, error %d; want %x", s, w, why, word(s))
		}
	}
}

func TestUnpack(t *testing.T) {
	for _, s := range shapes() {
		if out, why := head.Unpack(word(s)); out != s || why != api.OK {
			t.Errorf("Unpack of %x: %v, error %d; want %v", word(s), out, why, s)
		}
	}
}

// TestUnpackNoHeader: a word is refused if it has another tag, too many fields, or a mask that is too long.
func TestUnpackNoHeader(t *testing.T) {
	wrong := []uint64{0, 1, math.MaxUint64, 1 << 63, 165, 165 << 48, 0xa500000000001205 >> 8, 0x05120000000000a5}
	for _, s := range shapes() {
		for bit := 56; bit < 64; bit++ {
			wrong = append(wrong, word(s)^1<<bit)
		}
		wrong = append(wrong, word(s)&^(0xff<<56), word(s)|0xff<<56)
	}
	for n := uint64(49); n < 256; n++ {
		wrong = append(wrong, 165<<56|n, 165<<56|1<<8|n, 165<<56|(1<<48-1)<<8|n)
	}
	for n := range 48 {
		for bit := n; bit < 48; bit++ {
			wrong = append(wrong, word(api.Shape{N: n})+1<<(8+bit))
		}
	}
	for _, w := range wrong {
		if s, why := head.Unpack(w); s != (api.Shape{}) || why != api.ErrForm {
			t.Errorf("Unpack of %x: %v, error %d", w, s, why)
		}
	}
}

func TestInvalidComesFirst(t *testing.T) {
	for _, s := range badShapes() {
		if w, why := head.Pack(s); w != 0 || why != api.ErrForm {
			t.Errorf("Pack of the invalid %v: %x, error %d", s, w, why)
		}
		if n, why := head.Refs(s); n != 0 || why != api.ErrForm {
			t.Errorf("Refs of the invalid %v: %d, error %d", s, n, why)
		}
		for _, field := range append(wrongFields(s), 0, 1, 4) {
			if on, why := head.Ref(s, field); on || why != api.ErrForm {
				t.Errorf("Ref of the invalid %v, %d: %v, error %d", s, field, on, why)
			}
			if n, why := head.Refs(s, field, 1); n != 0 || why != api.ErrForm {
				t.Errorf("Refs of the invalid %v, %d: %d, error %d", s, field, n, why)
			}
			if n, why := head.Next(s, field); n != 0 || why != api.ErrForm {
				t.Errorf("Next of the invalid %v, %d: %d, error %d", s, field, n, why)
			}
		}
	}
}

// 6.2

func TestRef(t *testing.T) {
	for _, s := range shapes() {
		for field := range s.N {
			if on, why := head.Ref(s, field); on != masked(s, field) || why != api.OK {
				t.Errorf("Ref of %v, %d: %v, error %d", s, field, on, why)
			}
		}
		for _, field := range wrongFields(s) {
			if on, why := head.Ref(s, field); on || why != api.ErrField {
				t.Errorf("Ref of %v, %d: %v, error %d", s, field, on, why)
			}
		}
	}
}

func TestRefs(t *testing.T) {
	for _, s := range shapes() {
		var fields []int
		want := 0
		for field := range s.N {
			// Some fields are given several times.
			for _, f := range []int{field, 0, field / 2} {
				fields = append(fields, f)
				if masked(s, f) {
					want++
				}
			}
			if n, why := head.Refs(s, fields...); n != want || why != api.OK {
				t.Fatalf("Refs of %v, %v: %d, error %d; want %d", s, fields, n, why, want)
			}
		}
		if n, why := head.Refs(s); n != 0 || why != api.OK {
			t.Errorf("Refs of %v without fields: %d, error %d", s, n, why)
		}
		for _, field := range wrongFields(s) {
			for _, list := range [][]int{{field}, append([]int{field}, fields...), append(fields[:len(fields):len(fields)], field)} {
				if n, why := head.Refs(s, list...); n != 0 || why != api.ErrField {
					t.Errorf("Refs of %v, %v: %d, error %d", s, list, n, why)
				}
			}
		}
	}
}

func TestNext(t *testing.T) {
	for _, s := range shapes() {
		for from := range s.N + 1 {
			want, no := from, api.OK
			for want < s.N && !masked(s, want) {
				want++
			}
			if want == s.N {
				want, no = 0, api.ErrNone
			}
			if n, why := head.Next(s, from); n != want || why != no {
				t.Errorf("Next of %v, %d: %d, error %d; want %d, %d", s, from, n, why, want, no)
			}
		}
		for _, from := range append(sample.Ints(), -1, s.N+1, s.N+2, s.N+64, s.N+256, 49, 1<<32) {
			if n, why := head.Next(s, from); n != 0 || why != api.ErrRange {
				t.Errorf("Next of %v, %d: %d, error %d", s, from, n, why)
			}
		}
	}
}

// 6.3

func TestThereAndBack(t *testing.T) {
	for _, s := range shapes() {
		w, why := head.Pack(s)
		back, no := head.Unpack(w)
		if back != s || why != api.OK || no != api.OK {
			t.Errorf("Unpack of Pack of %v: %v, errors %d, %d", s, back, why, no)
		}
	}
	state := uint64(1)
	for range 20000 {
		state = state*6364136223846793005 + 1442695040888963407
		// Shifted, the mask is short enough for some of the words.
		w := 165<<56 | state>>16>>(state%48)<<8 | state>>32%50
		s, why := head.Unpack(w)
		if why != api.OK {
			continue
		}
		if back, why := head.Pack(s); back != w || why != api.OK {
			t.Errorf("Pack of Unpack of %x: %x, error %d", w, back, why)
		}
	}
}

// 6.4

func TestCounted(t *testing.T) {
	for _, s := range shapes() {
		n := 0
		from := 0
		for {
			field, why := head.Next(s, from)
			if why != api.OK {
				break
			}
			if field < from || !masked(s, field) {
				t.Fatalf("Next of %v, %d: %d", s, from, field)
			}
			n++
			from = field + 1
		}
		if n != bits.OnesCount64(s.Mask) {
			t.Errorf("Next finds %d fields of %v", n, s)
		}
	}
}

// Examples

func TestChapterExamples(t *testing.T) {
	s := chapter()
	for _, bad := range []api.Shape{{N: -1}, {N: 49}, {N: 2, Mask: 4}} {
		if why := head.Check(bad); why != api.ErrForm {
			t.Error("Check:", bad, why)
		}
	}
	if w, why := head.Pack(s); w != 0xA500000000001205 || why != api.OK {
		t.Errorf("Pack: %x, error %d", w, why)
	}
	if out, why := head.Unpack(0xA500000000001205); out != s || why != api.OK {
		t.Error("Unpack:", out, why)
	}
	for _, w := range []uint64{0, 0xA500000000000031, 0xA500000000000100} {
		if out, why := head.Unpack(w); out != (api.Shape{}) || why != api.ErrForm {
			t.Error("Unpack:", w, out, why)
		}
	}
	if on, why := head.Ref(s, -1); on || why != api.ErrField {
		t.Error("Ref:", on, why)
	}
	if n, why := head.Refs(s, 0, 1, 2, 3, 4); n != 2 || why != api.OK {
		t.Error("Refs:", n, why)
	}
	for from, want := range map[int]int{0: 1, 1: 1, 2: 4} {
		if n, why := head.Next(s, from); n != want || why != api.OK {
			t.Error("Next:", from, n, why)
		}
	}
	if n, why := head.Next(s, 5); n != 0 || why != api.ErrNone {
		t.Error("Next:", n, why)
	}
}

// TestTwoFields is the example at the end of the chapter.
func TestTwoFields(t *testing.T) {
	if w, why := head.Pack(api.Shape{N: 2, Mask: 2}); w != 0xa500000000000202 || why != api.OK {
		t.Errorf("%x, error %d", w, why)
	}
}

// The document's rules

// TestNilIsEmpty: a nil list and an empty one are the same to every call (P1).
func TestNilIsEmpty(t *testing.T) {
	for _, fields := range [][]int{nil, {}, make([]int, 0, 8)} {
		if n, why := head.Refs(chapter(), fields...); n != 0 || why != api.OK {
			t.Error("Refs:", n, why)
		}
	}
}

// TestArgumentsStay: the fields that are given are not changed, nor what is behind them.
func TestArgumentsStay(t *testing.T) {
	fields := []int{4, 1, 0, 1, 99}
	head.Refs(chapter(), fields[:4]...)
	head.Refs(chapter(), fields...)
	if [5]int(fields) != [5]int{4, 1, 0, 1, 99} {
		t.Error(fields)
	}
}

// TestArgumentsAlone: the same arguments have the same answers, whatever came before (P3).
func TestArgumentsAlone(t *testing.T) {
	for range 2 {
		for _, s := range []api.Shape{chapter(), {N: 48, Mask: 1 << 47}, {}} {
			if w, why := head.Pack(s); w != word(s) || why != api.OK {
				t.Errorf("Pack of %v: %x, error %d", s, w, why)
			}
		}
	}
}

// TestNoGoroutine: when a call has answered, no goroutine of it is left (P4).
func TestNoGoroutine(t *testing.T) {
	before := runtime.NumGoroutine()
	for _, s := range shapes() {
		head.Check(s)
		w, _ := head.Pack(s)
		head.Unpack(w)
		head.Ref(s, 0)
		head.Refs(s, 0, 1, 2)
		head.Next(s, 0)
	}
	// Fewer are no fault: the goroutine of an earlier test may have ended meanwhile.
	if after := runtime.NumGoroutine(); after > before {
		t.Errorf("%d goroutines, and %d before", after, before)
	}
}
