package span_test

import (
	"math"
	"runtime"
	"slices"
	"testing"

	"besom/api"
	"besom/sample"
	"besom/span"
)

var same = sample.SameSpans

func sameSpan(a, b api.Span) bool {
	return same([]api.Span{a}, []api.Span{b})
}

// zero reports whether s is the zero span; a nil list is an empty one.
func zero(s api.Span) bool {
	return sameSpan(s, api.Span{})
}

// slots, address and has follow the chapter's words.
func slots(s api.Span) int {
	return map[int]int{0: 1, 2: 8, 4: 4, 8: 2, 16: 1}[s.Size]
}

func address(s api.Span, slot int) uint64 {
	return uint64(s.First*16 + slot*s.Size)
}

func has(s api.Span, slot int) bool {
	return s.Alloc.W[0]>>slot&1 == 1
}

func sharePage(a, b api.Span) bool {
	for i := range a.Pages {
		for k := range b.Pages {
			if a.First+i == b.First+k {
				return true
			}
		}
	}
	return false
}

// chapter is the list l of the chapter's examples.
func chapter() []api.Span {
	return []api.Span{sample.Span(1, 2, 0, 1, 0), sample.Span(3, 1, 4, 2, 0), sample.Span(5, 1, 4, 0, 0)}
}

// singles are valid spans of every size, with several slots allocated and marked, at several places.
func singles() []api.Span {
	var out []api.Span
	for _, x := range []struct{ first, pages, size int }{
		{0, 1, 2}, {0, 1, 16}, {0, 2, 0}, {0, 4, 0}, {1, 1, 4}, {7, 3, 0}, {9, 1, 8}, {500, 1, 2},
		{1020, 4, 0}, {1021, 3, 0}, {1022, 2, 0}, {1023, 1, 2}, {1023, 1, 4}, {1023, 1, 8}, {1023, 1, 16},
	} {
		n := slots(api.Span{Size: x.size})
		all := uint64(1)<<n - 1
		for _, alloc := range []uint64{0, 1, all, all &^ 1, all >> 1, 0x55 & all} {
			for _, mark := range []uint64{0, alloc, alloc & 1, alloc &^ 1} {
				s := sample.Span(x.first, x.pages, x.size, alloc, mark)
				out = append(out, s, sample.Unswept(s))
			}
		}
	}
	return out
}

// full is as many spans as a list may have, from page first on, with so many free pages before each but the first.
func full(first, apart int) []api.Span {
	var l []api.Span
	for i := range 256 {
		size := []int{2, 4, 8, 16}[i%4]
		all := uint64(1)<<(16/size) - 1
		l = append(l, sample.Span(first+i*(1+apart), 1, size, all>>(i%3), all>>2))
	}
	return l
}

// lists are valid lists of spans.
func lists() [][]api.Span {
	return [][]api.Span{
		nil,
		chapter(),
		{sample.Span(0, 1, 2, 0, 0)},
		{sample.Span(1023, 1, 16, 1, 1)},
		{sample.Span(0, 2, 0, 1, 1), sample.Span(2, 4, 0, 0, 0), sample.Span(6, 3, 0, 1, 0), sample.Span(9, 1, 8, 2, 2)},
		{sample.Span(0, 1, 8, 3, 1), sample.Unswept(sample.Span(4, 1, 8, 1, 0)), sample.Span(6, 1, 8, 3, 3), sample.Span(8, 1, 8, 2, 0), sample.Span(9, 1, 8, 1, 0)},
		{sample.Span(2, 1, 2, 0x7f, 0), sample.Span(3, 1, 2, 0xbf, 0x81), sample.Span(1000, 4, 0, 1, 0), sample.Span(1020, 4, 0, 1, 0)},
		{sample.Unswept(sample.Span(10, 1, 2, 0, 0)), sample.Unswept(sample.Span(11, 1, 4, 0xf, 0xf)), sample.Unswept(sample.Span(12, 2, 0, 0, 0)), sample.Span(14, 3, 0, 0, 0)},
		full(0, 0),
		full(2, 3),
		full(768, 0),
		full(1, 1)[:255],
	}
}

// badLists are lists that are not valid.
func badLists() [][]api.Span {
	var bad [][]api.Span
	for _, s := range sample.BadSpans() {
		l := chapter()
		bad = append(bad, []api.Span{s}, []api.Span{s, l[2]}, []api.Span{l[0], s, l[2]}, []api.Span{l[0], s})
	}
	l, wide, wider := chapter(), sample.Span(2, 3, 0, 0, 0), sample.Span(0, 4, 0, 1, 0)
	return append(bad,
		[]api.Span{l[1], l[0]}, []api.Span{l[0], l[2], l[1]}, []api.Span{l[1], l[1]}, []api.Span{l[0], l[0], l[1]},
		[]api.Span{l[0], wide}, []api.Span{wide, l[1]}, []api.Span{wide, l[0]}, []api.Span{wider, l[0]}, []api.Span{wider, l[1], l[2]},
		[]api.Span{l[0], sample.Span(2, 1, 4, 0, 0)}, []api.Span{sample.Span(2, 1, 4, 0, 0), l[0]},
		[]api.Span{sample.Span(1020, 4, 0, 0, 0), sample.Span(1023, 1, 2, 0, 0)},
		append(full(0, 0), sample.Span(256, 1, 2, 0, 0)), append(full(0, 0), full(300, 0)...), append(full(2, 3), full(2, 3)...))
}

// edges are pages, and numbers of pages, next to what may be and at the ends of their type.
func edges() []int {
	return append(sample.Ints(), -2, -1, 0, 1, 2, 3, 4, 5, 1019, 1020, 1021, 1022, 1023, 1024, 1025, math.MaxInt-3, math.MinInt+3)
}

// 5.1

func TestCheck(t *testing.T) {
	if why := span.Check(); why != api.OK {
		t.Error("Check of no span: error", why)
	}
	for _, s := range singles() {
		if why := span.Check(s); why != api.OK {
			t.Errorf("Check of %v: error %d", s, why)
		}
	}
	for i, l := range lists() {
		if why := span.Check(l...); why != api.OK {
			t.Errorf("Check of list %d: error %d", i, why)
		}
	}
	for i, s := range sample.BadSpans() {
		if why := span.Check(s); why != api.ErrForm {
			t.Errorf("Check of invalid span %d, %v: error %d", i, s, why)
		}
	}
	for i, l := range badLists() {
		if why := span.Check(l...); why != api.ErrForm {
			t.Errorf("Check of invalid list %d, of %d spans: error %d", i, len(l), why)
		}
	}
}

func TestMake(t *testing.T) {
	for _, first := range edges() {
		for _, pages := range append(edges(), 1024) {
			for _, size := range append(sample.Ints(), -16, -8, -4, -2, -1, 0, 1, 2, 3, 4, 5, 6, 7, 8, 9, 12, 15, 16, 17, 32) {
				whole := size == 0 && pages >= 2 && pages <= 4
				cut := slots(api.Span{Size: size}) > 0 && size != 0 && pages == 1
				s, why := span.Make(first, pages, size)
				if (whole || cut) && first >= 0 && first <= 1024-pages {
					if !sameSpan(s, sample.Span(first, pages, size, 0, 0)) || why != api.OK {
						t.Errorf("Make(%d, %d, %d): %v, error %d", first, pages, size, s, why)
					}
				} else if !zero(s) || why != api.ErrForm {
					t.Errorf("Make(%d, %d, %d): %v, error %d", first, pages, size, s, why)
				}
			}
		}
	}
}

func TestSlots(t *testing.T) {
	for _, s := range singles() {
		if n, why := span.Slots(s); n != slots(s) || why != api.OK {
			t.Errorf("Slots of %v: %d, error %d", s, n, why)
		}
	}
}

func TestAddr(t *testing.T) {
	for _, s := range singles() {
		for slot := range slots(s) {
			if addr, why := span.Addr(s, slot); addr != address(s, slot) || why != api.OK {
				t.Errorf("Addr of %v, %d: %d, error %d", s, slot, addr, why)
			}
		}
		for _, slot := range append(sample.Ints(), slots(s), slots(s)+1, slots(s)+64) {
			if addr, why := span.Addr(s, slot); addr != 0 || why != api.ErrRange {
				t.Errorf("Addr of %v, %d: %d, error %d", s, slot, addr, why)
			}
		}
	}
}

func TestInvalidComesFirst(t *testing.T) {
	for i, s := range sample.BadSpans() {
		if n, why := span.Slots(s); n != 0 || why != api.ErrForm {
			t.Errorf("Slots of invalid span %d: %d, error %d", i, n, why)
		}
		for _, slot := range append(sample.Ints(), -1, 0, 1, 8) {
			if addr, why := span.Addr(s, slot); addr != 0 || why != api.ErrForm {
				t.Errorf("Addr of invalid span %d, %d: %d, error %d", i, slot, addr, why)
			}
		}
	}
	for i, l := range badLists() {
		for _, addr := range []uint64{0, 16, 48, 52, 53, 64, 1 << 14, math.MaxUint64} {
			if at, slot, why := span.Find(l, addr); at != 0 || slot != 0 || why != api.ErrForm {
				t.Errorf("Find in invalid list %d, %d: %d, %d, error %d", i, addr, at, slot, why)
			}
		}
		for _, n := range edges() {
			if at, slot, why := span.Room(l, n); at != 0 || slot != 0 || why != api.ErrForm {
				t.Errorf("Room in invalid list %d, %d: %d, %d, error %d", i, n, at, slot, why)
			}
			if out, why := span.Drop(l, n); len(out) != 0 || why != api.ErrForm {
				t.Errorf("Drop from invalid list %d, %d: %d spans, error %d", i, n, len(out), why)
			}
		}
		for _, s := range []api.Span{{}, sample.Span(7, 1, 2, 0, 0), sample.Span(2, 1, 2, 0, 0)} {
			if out, why := span.Add(l, s); len(out) != 0 || why != api.ErrForm {
				t.Errorf("Add to invalid list %d, %v: %d spans, error %d", i, s, len(out), why)
			}
		}
	}
}

// 5.2

// found is what Find answers by the chapter's words.
func found(l []api.Span, addr uint64) (int, int, api.Errno) {
	for at, s := range l {
		for i := range s.Pages * 16 {
			if uint64(s.First*16+i) != addr {
				continue
			}
			for slot := range slots(s) {
				if address(s, slot) == addr && has(s, slot) {
					return at, slot, api.OK
				}
			}
			return 0, 0, api.ErrDead
		}
	}
	return 0, 0, api.ErrNone
}

func TestFind(t *testing.T) {
	for i, l := range lists() {
		var addrs []uint64
		for _, s := range l {
			for k := range s.Pages*16 + 2 {
				// The words around those of the span are among these, but the one before the word 0.
				addrs = append(addrs, uint64(max(0, s.First*16+k-1)))
			}
		}
		for _, addr := range append(addrs[:min(len(addrs), 1200)], 0, 1, 15, 16, 16382, 16383, 16384, 16385) {
			at, slot, want := found(l, addr)
			if a, s, why := span.Find(l, addr); a != at || s != slot || why != want {
				t.Fatalf("Find in list %d, %d: %d, %d, error %d; want %d, %d, %d", i, addr, a, s, why, at, slot, want)
			}
		}
	}
}

// TestFindFar: addresses that a number of words, or of bits, too many apart from a slot's are in no span.
func TestFindFar(t *testing.T) {
	for i, l := range lists() {
		for _, s := range l {
			for _, far := range []uint64{1 << 14, 1 << 32, 1 << 60, 1 << 63, 1<<64 - 1<<14} {
				addr := far + address(s, 0)
				if at, slot, why := span.Find(l, addr); at != 0 || slot != 0 || why != api.ErrNone {
					t.Errorf("Find in list %d, %d: %d, %d, error %d", i, addr, at, slot, why)
				}
			}
		}
		if at, slot, why := span.Find(l, math.MaxUint64); at != 0 || slot != 0 || why != api.ErrNone {
			t.Errorf("Find in list %d of the greatest address: %d, %d, error %d", i, at, slot, why)
		}
	}
}

func TestRoom(t *testing.T) {
	room := func(l []api.Span, size int) (int, int, api.Errno) {
		for at, s := range l {
			for slot := range slots(s) {
				if s.Size == size && s.Swept && !has(s, slot) {
					return at, slot, api.OK
				}
			}
		}
		return 0, 0, api.ErrNone
	}
	many := lists()
	for _, s := range singles() {
		many = append(many, []api.Span{s})
	}
	for i, l := range many {
		for _, size := range append(sample.Ints(), -4, -2, -1, 0, 1, 2, 3, 4, 5, 6, 8, 10, 16, 17, 32) {
			at, slot, want := room(l, size)
			if a, s, why := span.Room(l, size); a != at || s != slot || why != want {
				t.Errorf("Room in list %d, %d: %d, %d, error %d; want %d, %d, %d", i, size, a, s, why, at, slot, want)
			}
		}
	}
}

// 5.3

// added is what Add answers by the chapter's words.
func added(l []api.Span, s api.Span) ([]api.Span, api.Errno) {
	for _, other := range l {
		if sharePage(other, s) {
			return l, api.ErrTwice
		}
	}
	if len(l) == 256 {
		return l, api.ErrFull
	}
	out := append(slices.Clone(l), s)
	slices.SortFunc(out, func(a, b api.Span) int { return a.First - b.First })
	return out, api.OK
}

func TestAdd(t *testing.T) {
	fresh := []api.Span{sample.Span(255, 3, 0, 1, 1), sample.Span(256, 1, 8, 1, 0), sample.Span(764, 4, 0, 0, 0), sample.Span(767, 1, 2, 3, 1)}
	for first := range 16 {
		fresh = append(fresh, sample.Span(first, 1, 2, 0x81, 1), sample.Unswept(sample.Span(first, 2, 0, 1, 1)),
			sample.Span(first, 3, 0, 0, 0), sample.Span(first, 4, 0, 1, 0))
	}
	for i, l := range lists() {
		for _, s := range append(slices.Clone(fresh), singles()...) {
			want, no := added(l, s)
			if out, why := span.Add(l, s); !same(out, want) || why != no {
				t.Fatalf("Add to list %d, %v: %d spans, error %d; want %d, %d", i, s, len(out), why, len(want), no)
			}
		}
	}
}

// TestAddInvalid: what is not valid is refused as that, be it in the list already or the list full.
func TestAddInvalid(t *testing.T) {
	for i, l := range lists() {
		for k, s := range sample.BadSpans() {
			if out, why := span.Add(l, s); len(out) != 0 || why != api.ErrForm {
				t.Errorf("Add to list %d, invalid span %d: %d spans, error %d", i, k, len(out), why)
			}
		}
	}
}

func TestDrop(t *testing.T) {
	for i, l := range lists() {
		firsts := edges()
		for first := range 1026 {
			firsts = append(firsts, first)
		}
		for _, first := range firsts {
			want, no := l, api.ErrNone
			for k, s := range l {
				if s.First == first {
					want, no = slices.Concat(l[:k], l[k+1:]), api.OK
				}
			}
			if out, why := span.Drop(l, first); !same(out, want) || why != no {
				t.Fatalf("Drop from list %d, %d: %d spans, error %d; want %d, %d", i, first, len(out), why, len(want), no)
			}
		}
	}
}

// Examples

func TestMakeExamples(t *testing.T) {
	s, why := span.Make(3, 1, 4)
	if !sameSpan(s, sample.Span(3, 1, 4, 0, 0)) || why != api.OK {
		t.Error(s, why)
	}
	for _, x := range [][3]int{{-1, 1, 4}, {1, 1, 3}, {1, 2, 4}, {1, 1, 0}, {1, 5, 0}, {1024, 1, 2}} {
		if s, why := span.Make(x[0], x[1], x[2]); !zero(s) || why != api.ErrForm {
			t.Error(x, s, why)
		}
	}
}

func TestListExamples(t *testing.T) {
	l := chapter()
	find := func(addr uint64, at, slot int, want api.Errno) {
		t.Helper()
		if a, s, why := span.Find(l, addr); a != at || s != slot || why != want {
			t.Errorf("Find(%d): %d, %d, error %d", addr, a, s, why)
		}
	}
	find(52, 1, 1, api.OK)
	find(16, 0, 0, api.OK)
	find(48, 0, 0, api.ErrDead)
	find(53, 0, 0, api.ErrDead)
	find(32, 0, 0, api.ErrDead)
	find(64, 0, 0, api.ErrNone)
	find(0, 0, 0, api.ErrNone)
	room := func(l []api.Span, size, at, slot int, want api.Errno) {
		t.Helper()
		if a, s, why := span.Room(l, size); a != at || s != slot || why != want {
			t.Errorf("Room(%d): %d, %d, error %d", size, a, s, why)
		}
	}
	room(l, 4, 1, 0, api.OK)
	room(l, 0, 0, 0, api.ErrNone)
	room([]api.Span{l[0], sample.Unswept(l[1]), l[2]}, 4, 2, 0, api.OK)
	s, _ := span.Make(2, 1, 8)
	if out, why := span.Add(l, s); !same(out, l) || why != api.ErrTwice {
		t.Error("Add:", out, why)
	}
	if out, why := span.Drop(l, 1); len(out) != 2 || !same(out, l[1:]) || why != api.OK {
		t.Error("Drop:", out, why)
	}
}

// TestOnePage is the example at the end of the chapter.
func TestOnePage(t *testing.T) {
	l := []api.Span{sample.Span(1, 1, 4, 4, 0)}
	if at, slot, why := span.Find(l, 24); at != 0 || slot != 2 || why != api.OK {
		t.Error(at, slot, why)
	}
	for _, addr := range []uint64{20, 25} {
		if _, _, why := span.Find(l, addr); why != api.ErrDead {
			t.Error(addr, why)
		}
	}
}

// 5.4

// calls are all calls that answer spans, those among them that are refused too.
func calls() map[string]func(l []api.Span, s api.Span) []api.Span {
	type call = func(l []api.Span, s api.Span) []api.Span
	add := func(l []api.Span, s api.Span) []api.Span { out, _ := span.Add(l, s); return out }
	drop := func(first int) call {
		return func(l []api.Span, s api.Span) []api.Span { out, _ := span.Drop(l, first); return out }
	}
	return map[string]call{
		"Make": func(l []api.Span, s api.Span) []api.Span {
			made, _ := span.Make(3, 1, 4)
			return []api.Span{made}
		},
		"Add":                   add,
		"Add of one twice":      func(l []api.Span, s api.Span) []api.Span { return add(l, l[1]) },
		"Add to a full list":    func(l []api.Span, s api.Span) []api.Span { return add(slices.Concat(l, full(10, 0)[3:]), s) },
		"Drop of the first one": drop(1),
		"Drop of the last one":  drop(5),
		"Drop of none":          drop(2),
	}
}

// words are the lists of words of the spans.
func words(l []api.Span) [][]uint64 {
	var out [][]uint64
	for _, s := range l {
		out = append(out, s.Alloc.W, s.Mark.W)
	}
	return out
}

// spoil changes all that the spans have.
func spoil(l []api.Span) {
	for _, w := range words(l) {
		for i := range w {
			w[i] ^= math.MaxUint64
		}
	}
	for i := range l {
		l[i].First += 7
	}
}

// roomy returns the list in memory that goes on behind it, where a careless append would write to, with a last span that nobody is to see.
func roomy(l []api.Span) []api.Span {
	return append(l, sample.Span(99, 1, 16, 1, 1))[:len(l)]
}

func TestNewMemory(t *testing.T) {
	fresh := sample.Span(4, 1, 8, 3, 2)
	for name, call := range calls() {
		l, s := roomy(chapter()), sample.CopySpans(fresh)[0]
		first := call(l, s)
		if !same(l, chapter()) || !sameSpan(s, fresh) || l[:4][3].First != 99 {
			t.Error(name, "changes an argument")
		}
		second := call(l, s)
		if len(second) == 0 {
			t.Error(name, "answers no span")
		}
		kept := sample.CopySpans(second...)
		spoil(first)
		if !same(l, chapter()) || !sameSpan(s, fresh) {
			t.Error(name, "answers an argument's memory")
		}
		if !same(second, kept) {
			t.Error(name, "answers the same memory twice")
		}
		spoil(l)
		spoil([]api.Span{s})
		if !same(second, kept) {
			t.Error(name, "keeps an argument's memory")
		}
	}
}

// TestListsApart: no two lists of an answer share memory, whether or not those of the arguments do.
func TestListsApart(t *testing.T) {
	for name, call := range calls() {
		shared := []uint64{1}
		l, s := chapter(), sample.Span(4, 1, 8, 1, 1)
		for i := range l {
			l[i].Alloc.W, l[i].Mark.W = shared, shared
		}
		s.Alloc.W, s.Mark.W = shared, shared
		out := words(call(l, s))
		for i, w := range out {
			w[0] = uint64(1000 + i)
		}
		for i, w := range out {
			if w[0] != uint64(1000+i) {
				t.Error(name, "answers two lists that share memory")
			}
		}
	}
}

func TestReadersChangeNothing(t *testing.T) {
	l := roomy(chapter())
	span.Check(l...)
	span.Find(l, 52)
	span.Find(l, 53)
	span.Room(l, 4)
	for _, s := range l {
		span.Check(s)
		span.Slots(s)
		span.Addr(s, 0)
	}
	if !same(l, chapter()) || l[:4][3].First != 99 {
		t.Error(l)
	}
}

// 5.5

func TestFound(t *testing.T) {
	for i, l := range lists() {
		live := map[uint64][2]int{}
		for at, s := range l {
			n, _ := span.Slots(s)
			for slot := range n {
				if addr, why := span.Addr(s, slot); has(s, slot) && why == api.OK {
					live[addr] = [2]int{at, slot}
				}
			}
		}
		step := uint64(1)
		if len(l) > 100 {
			step = 5
		}
		for addr := uint64(0); addr < 16400; addr += step {
			place, ok := live[addr]
			at, slot, why := span.Find(l, addr)
			if ok != (why == api.OK) || place != [2]int{at, slot} {
				t.Fatalf("Find in list %d, %d: %d, %d, error %d", i, addr, at, slot, why)
			}
		}
	}
}

// 5.6

func TestThereAndBack(t *testing.T) {
	for i, l := range lists() {
		for _, s := range singles() {
			more, why := span.Add(l, s)
			if why != api.OK {
				continue
			}
			if less, why := span.Drop(more, s.First); !same(less, l) || why != api.OK {
				t.Fatalf("Drop of %v, which was added to list %d: %d spans, error %d", s, i, len(less), why)
			}
		}
	}
}

// The document's rules

// TestNilIsEmpty: a nil list and an empty one are the same to every call (P1).
func TestNilIsEmpty(t *testing.T) {
	one := sample.Span(1, 1, 4, 0, 0)
	for _, l := range [][]api.Span{nil, {}, make([]api.Span, 0, 8)} {
		if why := span.Check(l...); why != api.OK {
			t.Error("Check:", why)
		}
		if at, slot, why := span.Find(l, 0); at != 0 || slot != 0 || why != api.ErrNone {
			t.Error("Find:", at, slot, why)
		}
		if at, slot, why := span.Room(l, 4); at != 0 || slot != 0 || why != api.ErrNone {
			t.Error("Room:", at, slot, why)
		}
		if out, why := span.Add(l, one); !same(out, []api.Span{one}) || why != api.OK {
			t.Error("Add:", out, why)
		}
		if out, why := span.Drop(l, 0); len(out) != 0 || why != api.ErrNone {
			t.Error("Drop:", out, why)
		}
	}
	for _, w := range [][]uint64{nil, {}} {
		s := api.Span{First: 1, Pages: 1, Size: 4, Alloc: api.Bits{W: w}, Mark: api.Bits{W: w}}
		if why := span.Check(s); why != api.ErrForm {
			t.Error("Check of a span without bits:", why)
		}
	}
}

// TestArgumentsAlone: the same arguments have the same answers, whatever came before and whatever room is behind them (P3).
func TestArgumentsAlone(t *testing.T) {
	fresh := sample.Span(4, 1, 8, 3, 2)
	for name, call := range calls() {
		want := call(chapter(), fresh)
		if got := call(roomy(chapter()), fresh); !same(got, want) {
			t.Error(name, "of a roomy list:", got, want)
		}
		if got := call(chapter(), fresh); !same(got, want) {
			t.Error(name, "once more:", got, want)
		}
	}
}

// TestNoGoroutine: when a call has answered, no goroutine of it is left (P4).
func TestNoGoroutine(t *testing.T) {
	before := runtime.NumGoroutine()
	for _, call := range calls() {
		call(chapter(), sample.Span(4, 1, 8, 3, 2))
	}
	span.Check(full(2, 3)...)
	span.Find(full(2, 3), 16000)
	span.Room(full(2, 3), 16)
	// Fewer are no fault: the goroutine of an earlier test may have ended meanwhile.
	if after := runtime.NumGoroutine(); after > before {
		t.Errorf("%d goroutines, and %d before", after, before)
	}
}
