package verify_test

import (
	"math"
	"slices"
	"testing"

	"besom/api"
	"besom/heap"
	"besom/sample"
	"besom/verify"
)

// list returns faults of the kinds, each at the number behind it.
func list(kindsAndPlaces ...uint64) []api.Fault {
	var out []api.Fault
	for pair := range slices.Chunk(kindsAndPlaces, 2) {
		out = append(out, api.Fault{Kind: api.FaultKind(pair[0]), At: pair[1]})
	}
	return out
}

const (
	frame  = uint64(api.FaultFrame)
	inSpan = uint64(api.FaultSpan)
	page   = uint64(api.FaultPage)
	first  = uint64(api.FaultHead)
	ref    = uint64(api.FaultRef)
	dirt   = uint64(api.FaultDirt)
)

// expect holds all that is said of a heap to the faults that it has.
func expect(t *testing.T, what string, h api.Heap, want []api.Fault) {
	t.Helper()
	if l := faultsOf(h); !slices.Equal(l, want) {
		t.Errorf("%s: by the chapter's words it has %v; want %v", what, l, want)
	}
	conform(t, what, h)
}

// conform holds all that is said of a heap to the chapter's words.
func conform(t *testing.T, what string, h api.Heap) {
	t.Helper()
	want := faultsOf(h)
	if l := verify.Faults(h); !slices.Equal(l, want) {
		t.Fatalf("%s: %v; want %v", what, l, want)
	}
	worst := api.FaultNone
	if len(want) > 0 {
		worst = want[0].Kind
	}
	if kind := verify.Worst(h); kind != worst {
		t.Fatalf("%s: the worst is %d; want %d", what, kind, worst)
	}
	out, count, no := mended(h)
	if g, n, why := verify.Mend(h); !same(g, out) || n != count || why != no {
		t.Fatalf("%s: Mend answers %d, error %d; want %d, error %d", what, n, why, count, no)
	}
}

// changed returns a copy of a heap in which words are replaced, each by the number behind its index.
func changed(h api.Heap, places ...uint64) api.Heap {
	h = sample.CopyHeap(h)
	for pair := range slices.Chunk(places, 2) {
		h.Arena.Words[pair[0]] = pair[1]
	}
	return h
}

// flipped returns a copy of a heap of up to 64 pages in which pages are in use if they were not, and the other way round.
func flipped(h api.Heap, pages ...int) api.Heap {
	h = sample.CopyHeap(h)
	for _, p := range pages {
		h.Pages.Used.W[0] ^= 1 << p
	}
	return h
}

// TestChapter: the chapter's own examples.
func TestChapter(t *testing.T) {
	h, _ := heap.Make(5)
	for i, s := range []api.Shape{{N: 1, Mask: 1}, {N: 1}, {N: 20}} {
		g, addr, why := heap.New(h, s, false)
		if addr != []uint64{16, 18, 32}[i] || why != api.OK {
			t.Fatal(addr, why)
		}
		h = g
	}
	h, _ = heap.Store(h, 16, 0, 18, true)
	h = flipped(changed(h, 18, 5, 60, 1, 30, 2), 1, 4)
	if !same(h, sample.Corrupted()) {
		t.Fatal(h)
	}
	want := list(page, 1, page, 4, first, 18, ref, 17, dirt, 30, dirt, 60)
	if l := verify.Faults(h); !slices.Equal(l, want) {
		t.Error("Faults:", l)
	}
	expect(t, "corrupted", h, want)
	if n := verify.Count(h, api.FaultDirt, api.FaultPage); n != 4 {
		t.Error("Count:", n)
	}
	g, n, why := verify.Mend(h)
	if l, no := heap.Objects(g); n != 6 || why != api.OK || !slices.Equal(l, []uint64{16, 32}) || no != api.OK {
		t.Error("Mend:", n, why, l, no)
	}
	short := sample.CopyHeap(h)
	short.Arena.Words = short.Arena.Words[:79]
	expect(t, "without a word", short, list(frame, 0))
	other := sample.CopyHeap(h)
	other.Spans[0].First = 3
	if kind := verify.Worst(other); kind != api.FaultSpan {
		t.Error("Worst:", kind)
	}
	expect(t, "with a span elsewhere", other, list(inSpan, 1))
}

// TestFreeWord is the example at the end of the chapter.
func TestFreeWord(t *testing.T) {
	for _, at := range []uint64{0, 15, 24, 31, 53, 63, 64, 95} {
		h := changed(sample.ThreeObjects(), at, 7)
		expect(t, "a free word", h, list(dirt, at))
		if g, n, why := verify.Mend(h); g.Arena.Words[at] != 0 || !same(g, sample.ThreeObjects()) || n != 1 || why != api.OK {
			t.Error("Mend:", at, n, why)
		}
	}
}

// 29.1

// TestValid: a valid heap has no faults, and is not changed.
func TestValid(t *testing.T) {
	for i, h := range sample.Heaps() {
		if l, kind := verify.Faults(h), verify.Worst(h); len(l) != 0 || kind != api.FaultNone {
			t.Errorf("heap %d: %v, %d", i, l, kind)
		}
		if g, n, why := verify.Mend(h); !same(g, h) || n != 0 || why != api.OK {
			t.Errorf("heap %d: Mend answers %d, error %d", i, n, why)
		}
		conform(t, "valid", h)
	}
}

// TestBad: each heap that is not valid has faults, as the chapter's words say.
func TestBad(t *testing.T) {
	kinds := map[api.FaultKind]int{}
	for i, h := range sample.BadHeaps() {
		if l := verify.Faults(h); len(l) == 0 {
			t.Errorf("invalid heap %d has no faults", i)
		}
		conform(t, "invalid", h)
		kinds[verify.Worst(h)]++
	}
	for kind := api.FaultNone + 1; kind < api.FaultCount; kind++ {
		if kinds[kind] < 5 {
			t.Error("too few of a kind:", kinds)
		}
	}
}

// TestFrame: where the arena and the pages are not right, this is all that is told, whatever else is wrong.
func TestFrame(t *testing.T) {
	for _, start := range []api.Heap{sample.ThreeObjects(), sample.Corrupted(), {Spans: []api.Span{{First: -1}}}} {
		for _, n := range []int{0, 1, 15, 16, 17, 79, 81, 95, 97, 1000, 16384, 16385, 40000} {
			h := sample.CopyHeap(start)
			h.Arena.Words = slices.Repeat([]uint64{1}, n)
			if n != 16*h.Pages.Used.N || n == 0 {
				expect(t, "of another number of words", h, list(frame, 0))
			}
		}
		for _, b := range sample.BadBits() {
			h := sample.CopyHeap(start)
			h.Pages.Used = b
			if b.N > 0 && b.N < 4097 {
				h.Arena.Words = make([]uint64, 16*b.N)
			}
			expect(t, "of pages that are not valid", h, list(frame, 0))
		}
		// So many pages may be, but not so many words.
		for _, n := range []int{0, 1025, 4096} {
			h := sample.CopyHeap(start)
			h.Pages.Used = sample.Pack(make([]bool, n))
			h.Arena.Words = make([]uint64, 16*n)
			expect(t, "of too many pages, or none", h, list(frame, 0))
		}
	}
	for _, n := range []int{1, 2, 63, 64, 65, 1023, 1024} {
		expect(t, "of free words", sample.Heap(n, nil), nil)
		expect(t, "of free pages", changedPages(n), list(page, 0))
	}
}

// changedPages is a heap of so many pages, all of which are free.
func changedPages(n int) api.Heap {
	h := sample.Heap(n, nil)
	h.Pages.Used.W[0] = 0
	return h
}

// spans is a heap of six pages, in which those are in use that some spans would have.
func spans(l ...api.Span) api.Heap {
	h := sample.Heap(6, nil)
	h.Spans = sample.CopySpans(l...)
	h.Pages.Used.W[0] = 1
	for p := 1; p < 6; p++ {
		if belongs(h, p) {
			h.Pages.Used.W[0] |= 1 << p
		}
	}
	return h
}

// TestSpans: a span is told of that is not valid, before page 1, behind the last page, or before the end of a valid one before it.
func TestSpans(t *testing.T) {
	one := func(first int) api.Span { return sample.Span(first, 1, 4, 0, 0) }
	large := func(first, pages int) api.Span { return sample.Span(first, pages, 0, 0, 0) }
	bad := func(first int) api.Span { return sample.Span(first, 2, 4, 0, 0) }
	for _, x := range []struct {
		l    []api.Span
		want []uint64
	}{
		{nil, nil}, {[]api.Span{one(1)}, nil}, {[]api.Span{one(5)}, nil}, {[]api.Span{large(2, 4)}, nil}, {[]api.Span{large(1, 3), one(4), one(5)}, nil}, {[]api.Span{one(1), large(2, 4)}, nil},
		{[]api.Span{one(0)}, []uint64{0}}, {[]api.Span{large(0, 2)}, []uint64{0}}, {[]api.Span{one(-1)}, []uint64{0}}, {[]api.Span{one(6)}, []uint64{0}}, {[]api.Span{large(5, 2)}, []uint64{0}}, {[]api.Span{large(4, 2)}, nil},
		{[]api.Span{one(1023)}, []uint64{0}}, {[]api.Span{one(1024)}, []uint64{0}}, {[]api.Span{one(math.MaxInt)}, []uint64{0}}, {[]api.Span{one(math.MinInt)}, []uint64{0}}, {[]api.Span{large(math.MaxInt-1, 2), one(1)}, []uint64{0}},
		// The pages of a span before page 1 are its pages all the same.
		{[]api.Span{large(0, 2), one(1)}, []uint64{0, 1}}, {[]api.Span{large(0, 2), one(2)}, []uint64{0}}, {[]api.Span{one(0), one(1)}, []uint64{0}}, {[]api.Span{one(0), one(0)}, []uint64{0, 1}},
		// So are those behind the last page.
		{[]api.Span{large(4, 4), one(5)}, []uint64{0, 1}}, {[]api.Span{one(7), one(3)}, []uint64{0, 1}}, {[]api.Span{one(7), one(3), one(4)}, []uint64{0, 1}}, {[]api.Span{large(100, 3), one(3), one(2), one(1)}, []uint64{0, 1, 2, 3}},
		{[]api.Span{one(1), one(1)}, []uint64{1}}, {[]api.Span{one(2), one(1)}, []uint64{1}}, {[]api.Span{one(2), one(1), one(2)}, []uint64{1}}, {[]api.Span{one(3), one(2), one(1)}, []uint64{1, 2}}, {[]api.Span{large(1, 3), one(3), one(4)}, []uint64{1}},
		{[]api.Span{large(1, 3), large(2, 3), one(4)}, []uint64{1, 2}}, {[]api.Span{large(1, 3), large(2, 3), one(5)}, []uint64{1}}, {[]api.Span{large(1, 4), one(2), one(3)}, []uint64{1}}, {[]api.Span{large(1, 4), one(2), one(2)}, []uint64{1, 2}},
		// Of one that is not valid it is no matter where it ends, not even for what comes behind the next one.
		{[]api.Span{bad(1)}, []uint64{0}}, {[]api.Span{bad(3), one(1)}, []uint64{0}}, {[]api.Span{bad(3), one(3), one(4)}, []uint64{0}}, {[]api.Span{one(3), bad(1), one(1)}, []uint64{1}}, {[]api.Span{one(3), bad(4), one(3), one(3)}, []uint64{1, 3}},
		{[]api.Span{bad(1), bad(1), bad(1)}, []uint64{0, 1, 2}}, {[]api.Span{bad(0), one(0)}, []uint64{0, 1}}, {[]api.Span{bad(4), one(6)}, []uint64{0, 1}}, {[]api.Span{one(1), bad(1), one(0)}, []uint64{1, 2}},
	} {
		var want []api.Fault
		for _, at := range x.want {
			want = append(want, api.Fault{Kind: api.FaultSpan, At: at})
		}
		h := spans(x.l...)
		expect(t, "with spans", h, want)
		if len(want) > 0 {
			// Nothing else is told then.
			expect(t, "with spans and other faults", flipped(changed(h, 3, 3, 20, 20), 0, 3), want)
		}
	}
	for _, s := range sample.BadSpans() {
		expect(t, "with an invalid span", spans(s), list(inSpan, 0))
		expect(t, "with an invalid span between others", spans(one(1), s, one(5)), list(inSpan, 1))
		expect(t, "with an invalid span before others", spans(s, one(1), one(5)), list(inSpan, 0))
	}
}

// TestManySpans: only the first 256 spans are looked at, and that there are more is told once.
func TestManySpans(t *testing.T) {
	of := func(n int) api.Heap {
		var l []api.Span
		for i := range n {
			l = append(l, sample.Span(1+i, 1, 2, 0, 0))
		}
		return sample.Heap(600, l)
	}
	expect(t, "255", of(255), nil)
	expect(t, "256", of(256), nil)
	for _, n := range []int{257, 258, 300, 599} {
		expect(t, "many", of(n), list(inSpan, 256))
		h := of(n)
		for i := 256; i < n; i++ {
			h.Spans[i].First = 1
		}
		expect(t, "many, and wrong behind the 256th", h, list(inSpan, 256))
		h.Spans[3].Pages, h.Spans[255].First, h.Pages.Used.W[0] = 2, 255, 0
		expect(t, "many, and wrong ones", h, list(inSpan, 3, inSpan, 255, inSpan, 256))
	}
	full := of(256)
	full.Spans[255].Size = 3
	expect(t, "256, and the last one wrong", full, list(inSpan, 255))
	same := of(256)
	for i := range same.Spans {
		same.Spans[i].First = 7
	}
	if n := verify.Count(same, api.FaultSpan); n != 255 {
		t.Error(n)
	}
	expect(t, "none", sample.Heap(600, nil), nil)
}

// TestPages: a page is in use if it is page 0 or belongs to a span, and not otherwise.
func TestPages(t *testing.T) {
	for i, h := range sample.Heaps() {
		if h.Pages.Used.N > 64 {
			continue
		}
		for p := range h.Pages.Used.N {
			expect(t, "one page", flipped(h, p), list(page, uint64(p)))
			if g, n, why := verify.Mend(flipped(h, p)); !same(g, h) || n != 1 || why != api.OK {
				t.Error("Mend:", i, p, n, why)
			}
		}
	}
	h := sample.ThreeObjects()
	expect(t, "all pages", flipped(h, 5, 4, 3, 2, 1, 0), list(page, 0, page, 1, page, 2, page, 3, page, 4, page, 5))
	expect(t, "some pages", flipped(h, 0, 3, 5), list(page, 0, page, 3, page, 5))
	last := sample.FullPages()
	last.Pages.Used.W[15] ^= 1 << 63
	expect(t, "the last page", last, list(page, 1023))
	// Of a page that is not in use the words are its objects' all the same, and of one that is in use and nobody's they are nobody's.
	expect(t, "words of pages", changed(flipped(h, 2, 3, 4), 34, 9, 60, 9, 70, 9), list(page, 2, page, 3, page, 4, dirt, 60, dirt, 70))
}

// TestHeads: an object has as many words as go with its span.
func TestHeads(t *testing.T) {
	for _, s := range []struct{ pages, size, least, most int }{{1, 2, 0, 1}, {1, 4, 2, 3}, {1, 8, 4, 7}, {1, 16, 8, 15}, {2, 0, 16, 31}, {3, 0, 32, 47}, {4, 0, 48, 48}} {
		for n := range 60 {
			for _, marks := range []uint64{0, 1} {
				x := sample.Span(1, s.pages, s.size, 1, marks)
				for _, x := range []api.Span{x, sample.Unswept(x)} {
					h := sample.Heap(6, []api.Span{x}, sample.Object{Addr: 16, N: n})
					var want []api.Fault
					if n < s.least || n > s.most {
						want = list(first, 16)
					}
					expect(t, "of so many fields", h, want)
				}
			}
		}
	}
}

// TestFirstWords: what is no header word of a valid shape is told, of all objects, whether or not they are current.
func TestFirstWords(t *testing.T) {
	start := sample.ThreeObjects()
	for i, w := range []uint64{0, 1, 3, 0xa4<<56 + 3, 0xa6<<56 + 3, 0xa500000000000031, 0xa500000000000103, 0xa500000000000803, 0xa5000000000000ff, 0xa580000000000003, 5 << 56, math.MaxUint64} {
		for _, marks := range []uint64{0, 1, 2, 3} {
			h := changed(start, 16, w)
			h.Spans[0].Mark.W[0] = marks
			want := list(first, 16)
			if w == 0xa500000000000103 {
				want = nil
			}
			expect(t, "a first word", h, want)
			h.Spans[0].Swept = false
			expect(t, "a first word in a span that is not Swept", h, want)
			if want == nil {
				continue
			}
			g, n, why := verify.Mend(h)
			if bit(g.Spans[0].Alloc, 0) || bit(g.Spans[0].Mark, 0) || !bit(g.Spans[0].Alloc, 1) || bit(g.Spans[0].Mark, 1) != (marks > 1) || n != 1 || why != api.OK {
				t.Error("Mend:", i, marks, n, why, g.Spans)
			}
		}
	}
	expect(t, "all first words", changed(start, 32, 0, 20, sample.Header(4, 0), 16, sample.Header(3, 0)), list(first, 20, first, 32))
	// Other words of the slot are no dirt, but they become 0, too.
	h := changed(start, 16, 1, 17, 2, 18, 3, 19, 4, 32, 5, 33, 6, 52, 7, 53, 8, 63, 9, 24, 1, 64, 1)
	expect(t, "words of slots", h, list(first, 16, first, 32, dirt, 24, dirt, 64))
	g, n, why := verify.Mend(h)
	want := sample.Heap(6, []api.Span{sample.Span(1, 1, 4, 2, 0), sample.Span(2, 2, 0, 0, 0)}, sample.Object{Addr: 20, N: 3})
	if !same(g, want) || n != 4 || why != api.OK {
		t.Error("Mend:", n, why, g)
	}
}

// TestRefs: a reference of a current object is 0 or to a current object, and both have right first words.
func TestRefs(t *testing.T) {
	// The objects at 16 and 48 are current, and those at 18 and 32 are not; 20 and 34 are no objects.
	start := sample.Heap(6, []api.Span{sample.Unswept(sample.Span(1, 1, 2, 3, 1)), sample.Unswept(sample.Span(2, 1, 2, 1, 0)), sample.Span(3, 1, 4, 1, 0)},
		sample.Object{Addr: 16, N: 1, Mask: 1}, sample.Object{Addr: 18, N: 1, Mask: 1}, sample.Object{Addr: 32, N: 1, Mask: 1}, sample.Object{Addr: 48, N: 3, Mask: 5})
	for _, w := range []uint64{0, 1, 15, 16, 17, 18, 19, 20, 32, 33, 34, 47, 48, 49, 50, 52, 64, 80, 95, 96, 97, 16384, 1<<32 + 16, 1<<60 + 48, 1 << 63, math.MaxUint64 - 15, math.MaxUint64} {
		wrong := w != 0 && w != 16 && w != 48
		for _, at := range []uint64{17, 49, 51} {
			var want []api.Fault
			if wrong {
				want = list(ref, at)
			}
			h := changed(start, at, w)
			expect(t, "a reference", h, want)
			if g, n, why := verify.Mend(h); wrong && (!same(g, start) || n != 1 || why != api.OK) {
				t.Error("Mend:", at, w, n, why)
			}
		}
		// Of an object that is not current, and of a number, it is no matter.
		for _, at := range []uint64{19, 33, 50} {
			expect(t, "no reference", changed(start, at, w), nil)
		}
	}
	expect(t, "all references", changed(start, 17, 18, 49, 32, 51, 1), list(ref, 17, ref, 49, ref, 51))
	// Who has no right first word refers to nothing, and nothing may refer to it.
	expect(t, "one that is wrong", changed(start, 48, 1, 49, 1, 51, 1, 17, 48), list(first, 48, ref, 17))
	expect(t, "one that is wrong and not current", changed(start, 18, 1, 19, 1, 17, 18), list(first, 18, ref, 17))
	expect(t, "one that is wrong and refers to itself", changed(start, 16, 1, 17, 16, 49, 16), list(first, 16, ref, 49))
}

// TestDirt: what is not 0 belongs to an object, or to the slot of one that is wrong.
func TestDirt(t *testing.T) {
	start := sample.Heap(8, []api.Span{sample.Span(1, 1, 4, 5, 1), sample.Unswept(sample.Span(2, 1, 8, 3, 1)), sample.Span(4, 2, 0, 1, 0), sample.Span(6, 1, 2, 0, 0)},
		sample.Object{Addr: 16, N: 2}, sample.Object{Addr: 24, N: 3}, sample.Object{Addr: 32, N: 4}, sample.Object{Addr: 40, N: 5}, sample.Object{Addr: 64, N: 20})
	owned := func(at uint64) bool {
		return at >= 16 && at < 19 || at >= 24 && at < 28 || at >= 32 && at < 37 || at >= 40 && at < 46 || at >= 64 && at < 85
	}
	firsts := []uint64{16, 24, 32, 40, 64}
	for at := range uint64(128) {
		for _, w := range []uint64{1, 16, 1 << 63, sample.Header(3, 0), math.MaxUint64} {
			switch {
			case slices.Contains(firsts, at):
			case owned(at):
				expect(t, "a field", changed(start, at, w), nil)
			default:
				expect(t, "a word", changed(start, at, w), list(dirt, at))
			}
		}
	}
	var all []api.Fault
	h := sample.CopyHeap(start)
	for at := range uint64(128) {
		if !owned(at) {
			h.Arena.Words[at] = 1 << 63
			all = append(all, api.Fault{Kind: api.FaultDirt, At: at})
		}
	}
	expect(t, "all words", h, all)
	if g, n, why := verify.Mend(h); !same(g, start) || n != 128-39 || why != api.OK {
		t.Error("Mend:", n, why)
	}
}

// TestGreatest: a heap of the greatest size, all of whose words are wrong, is told of and repaired.
func TestGreatest(t *testing.T) {
	for _, h := range []api.Heap{sample.FullPages(), sample.FullSpans(), sample.Heap(1024, nil)} {
		for i := range h.Arena.Words {
			h.Arena.Words[i] ^= 1 << 63
		}
		clear(h.Pages.Used.W)
		conform(t, "all words", h)
	}
	if n := verify.Count(changedPages(1024), api.FaultPage); n != 1 {
		t.Error(n)
	}
}

func TestCount(t *testing.T) {
	all := []api.FaultKind{api.FaultFrame, api.FaultSpan, api.FaultPage, api.FaultHead, api.FaultRef, api.FaultDirt}
	for i, h := range slices.Concat(sample.Heaps()[:6], sample.BadHeaps(), []api.Heap{sample.Corrupted()}) {
		l := faultsOf(h)
		for _, kinds := range [][]api.FaultKind{
			nil, {}, all, slices.Concat(all, all), {api.FaultFrame}, {api.FaultSpan}, {api.FaultPage}, {api.FaultHead}, {api.FaultRef}, {api.FaultDirt},
			{api.FaultDirt, api.FaultDirt, api.FaultPage}, {api.FaultRef, api.FaultHead}, {api.FaultNone}, {api.FaultCount, 128, 255}, {api.FaultNone, api.FaultSpan, 255}, make([]api.FaultKind, 1000),
		} {
			want := 0
			for _, f := range l {
				if slices.Index(kinds, f.Kind) >= 0 {
					want++
				}
			}
			if n := verify.Count(h, kinds...); n != want {
				t.Errorf("heap %d: %d faults of %d; want %d", i, n, kinds, want)
			}
		}
		if n := verify.Count(h, all...); n != len(l) {
			t.Errorf("heap %d: %d faults; want %d", i, n, len(l))
		}
	}
}

// TestWorst: the first fault is that of the first kind there is.
func TestWorst(t *testing.T) {
	h := sample.Corrupted()
	for _, x := range []struct {
		mend func()
		want api.FaultKind
	}{
		{func() {}, api.FaultPage},
		{func() { h = flipped(h, 4) }, api.FaultPage},
		{func() { h = flipped(h, 1) }, api.FaultHead},
		{func() { h = changed(h, 18, sample.Header(1, 1), 19, 7) }, api.FaultRef},
		{func() { h = changed(h, 19, 0) }, api.FaultDirt},
		{func() { h = changed(h, 30, 0) }, api.FaultDirt},
		{func() { h = changed(h, 60, 0) }, api.FaultNone},
	} {
		x.mend()
		if kind := verify.Worst(h); kind != x.want {
			t.Error(kind, x.want)
		}
	}
}

// TestEachWord: whatever a word is replaced by, the faults are as the chapter's words say.
func TestEachWord(t *testing.T) {
	kinds := map[api.FaultKind]int{}
	for i, h := range sample.Heaps() {
		if h.Pages.Used.N > 24 {
			continue
		}
		values := []uint64{0, 1, 1 << 63, math.MaxUint64, 0xa4<<56 + 1, 0xa500000000000031, sample.Header(0, 0), sample.Header(1, 1), sample.Header(3, 5), sample.Header(7, 64), sample.Header(15, 0), sample.Header(20, 1<<19), sample.Header(48, 1)}
		for _, o := range sample.Objects(h) {
			values = append(values, o.Addr)
		}
		for at, was := range h.Arena.Words {
			for _, w := range values {
				h.Arena.Words[at] = w
				conform(t, "heap "+string(rune('a'+i)), h)
				kinds[verify.Worst(h)]++
			}
			h.Arena.Words[at] = was
		}
	}
	for _, kind := range []api.FaultKind{api.FaultNone, api.FaultHead, api.FaultRef, api.FaultDirt} {
		if kinds[kind] < 100 {
			t.Error("too few of a kind:", kinds)
		}
	}
}

// 29.2

// TestMendErrors: what has a FaultFrame or a FaultSpan is not repaired.
func TestMendErrors(t *testing.T) {
	counts := map[api.Errno]int{}
	for i, h := range sample.BadHeaps() {
		kind := verify.Worst(h)
		want := api.OK
		if kind == api.FaultFrame || kind == api.FaultSpan {
			want = api.ErrForm
		}
		counts[want]++
		g, n, why := verify.Mend(h)
		if why != want || why != api.OK && (!same(g, api.Heap{}) || n != 0) || why == api.OK && n == 0 {
			t.Errorf("invalid heap %d: %d, error %d; want %d", i, n, why, want)
		}
	}
	if counts[api.OK] < 50 || counts[api.ErrForm] < 50 {
		t.Error("too few of a kind:", counts)
	}
}

// TestMendKeeps: what is not wrong is as it was, in a heap in which something of each kind is repaired.
func TestMendKeeps(t *testing.T) {
	h := sample.Heap(10, []api.Span{sample.Span(1, 1, 2, 0x8f, 0x85), sample.Unswept(sample.Span(3, 1, 4, 0xf, 0x3)), sample.Unswept(sample.Span(4, 3, 0, 1, 1)), sample.Span(8, 1, 16, 1, 1)},
		sample.Object{Addr: 16, N: 1, Mask: 1, Fields: []uint64{18}}, sample.Object{Addr: 18, N: 1, Mask: 1, Fields: []uint64{16}}, sample.Object{Addr: 20, N: 2, Fields: []uint64{20}}, sample.Object{Addr: 22}, sample.Object{Addr: 30, N: 1, Mask: 1, Fields: []uint64{64}},
		sample.Object{Addr: 48, N: 3, Mask: 7, Fields: []uint64{16, 52, 56}}, sample.Object{Addr: 52, N: 3, Fields: []uint64{1, 2, 3}}, sample.Object{Addr: 56, N: 2, Mask: 3, Fields: []uint64{999, 20}}, sample.Object{Addr: 60, N: 1, Fields: []uint64{5}},
		sample.Object{Addr: 64, N: 16, Fields: slices.Repeat([]uint64{8}, 30)}, sample.Object{Addr: 128, N: 8, Mask: 0xff, Fields: []uint64{16, 18, 20, 22, 30, 48, 52, 128}})
	h.Arena.Words[140], h.Arena.Words[23] = 1, 1
	h = flipped(h, 0, 4, 9)
	expect(t, "of each kind", h, list(page, 0, page, 4, page, 9, first, 20, first, 60, first, 64, ref, 31, ref, 51, ref, 131, dirt, 23, dirt, 140))
	want := sample.Heap(10, []api.Span{sample.Span(1, 1, 2, 0x8b, 0x81), sample.Unswept(sample.Span(3, 1, 4, 0x7, 0x3)), sample.Unswept(sample.Span(4, 3, 0, 0, 0)), sample.Span(8, 1, 16, 1, 1)},
		sample.Object{Addr: 16, N: 1, Mask: 1, Fields: []uint64{18}}, sample.Object{Addr: 18, N: 1, Mask: 1, Fields: []uint64{16}}, sample.Object{Addr: 22}, sample.Object{Addr: 30, N: 1, Mask: 1},
		sample.Object{Addr: 48, N: 3, Mask: 7, Fields: []uint64{16, 52, 0}}, sample.Object{Addr: 52, N: 3, Fields: []uint64{1, 2, 3}}, sample.Object{Addr: 56, N: 2, Mask: 3, Fields: []uint64{999, 20}},
		sample.Object{Addr: 128, N: 8, Mask: 0xff, Fields: []uint64{16, 18, 0, 22, 30, 48, 52, 128}})
	if g, n, why := verify.Mend(h); !same(g, want) || n != 11 || why != api.OK {
		t.Error("Mend:", n, why, g)
	}
}
