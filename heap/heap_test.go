package heap_test

import (
	"math"
	"slices"
	"testing"

	"besom/api"
	"besom/heap"
	"besom/sample"
)

func empty(h api.Heap) bool {
	return same(h, api.Heap{})
}

// small are the valid heaps in which everything is tried.
func small() []api.Heap {
	var out []api.Heap
	for _, h := range sample.Heaps() {
		if h.Pages.Used.N <= 24 {
			out = append(out, h)
		}
	}
	return out
}

// addrs are the addresses of all words of a small heap, some of a great one, and such as no heap has.
func addrs(h api.Heap) []uint64 {
	n := uint64(len(h.Arena.Words))
	out := []uint64{n, n + 1, 16384, 1<<32 + 16, 1<<60 + 16, 1<<63 + 16, math.MaxUint64 - 15, math.MaxUint64}
	step := max(1, n/50)
	for addr := uint64(0); addr < n; addr += step {
		out = append(out, addr)
	}
	return out
}

// shapes are valid ones, at both ends of each class, and such as are not valid.
func shapes() []api.Shape {
	var out []api.Shape
	for _, n := range []int{0, 1, 2, 3, 4, 7, 8, 15, 16, 17, 31, 32, 47, 48} {
		out = append(out, api.Shape{N: n}, api.Shape{N: n, Mask: 1<<n - 1}, api.Shape{N: n, Mask: 1 << n >> 1})
	}
	return append(out, badShapes()...)
}

func badShapes() []api.Shape {
	out := []api.Shape{{N: -1}, {N: 49}, {N: 50}, {N: 256}, {N: 0, Mask: 1}, {N: 2, Mask: 4}, {N: 48, Mask: 1 << 48}, {N: 48, Mask: math.MaxUint64}, {N: 1<<32 + 2}}
	for _, n := range sample.Ints() {
		out = append(out, api.Shape{N: n}, api.Shape{N: n, Mask: 1})
	}
	return out
}

// 7.1

func TestMake(t *testing.T) {
	for _, n := range []int{1, 2, 3, 6, 64, 65, 1023, 1024} {
		if h, why := heap.Make(n); !same(h, sample.Heap(n, nil)) || why != api.OK {
			t.Errorf("Make(%d): error %d", n, why)
		}
	}
	for _, n := range append(sample.Ints(), -16, 0, 1025, 1040, 4096, 16384, math.MaxInt/16+1) {
		if h, why := heap.Make(n); !empty(h) || why != api.ErrRange {
			t.Errorf("Make(%d): error %d", n, why)
		}
	}
}

func TestCheck(t *testing.T) {
	for i, h := range sample.Heaps() {
		if why := heap.Check(h); why != api.OK || !valid(h) {
			t.Errorf("Check of heap %d: error %d", i, why)
		}
	}
	for i, h := range sample.BadHeaps() {
		if why := heap.Check(h); why != api.ErrForm || valid(h) {
			t.Errorf("Check of invalid heap %d: error %d", i, why)
		}
	}
}

// TestCheckWords: whatever one word is replaced by, Check answers what the chapter's words say.
func TestCheckWords(t *testing.T) {
	counts := map[bool]int{}
	for i, h := range small() {
		values := []uint64{0, 1, 2, 1 << 63, math.MaxUint64, 0xa4<<56 + 1, 0xa500000000000031, 0xa500000000000100}
		for _, x := range things(h) {
			values = append(values, x.addr, x.addr+1)
		}
		for _, n := range []int{0, 1, 2, 3, 7, 8, 15, 16, 17, 31, 32, 47, 48} {
			values = append(values, sample.Header(n, 0), sample.Header(n, 1<<n>>1), sample.Header(n, 1<<n-1))
		}
		for at, was := range h.Arena.Words {
			for _, w := range values {
				h.Arena.Words[at] = w
				ok := valid(h)
				counts[ok]++
				if why := heap.Check(h); (why == api.OK) != ok {
					t.Fatalf("Check of heap %d with the word %d of %x: error %d", i, at, w, why)
				}
			}
			h.Arena.Words[at] = was
		}
	}
	if counts[true] < 100 || counts[false] < 100 {
		t.Error("too few of a kind:", counts)
	}
}

// TestCheckSpans: whatever is changed of one span, or of one page, Check answers what the chapter's words say.
func TestCheckSpans(t *testing.T) {
	counts := map[bool]int{}
	for i, h := range small() {
		try := func(what string) {
			t.Helper()
			ok := valid(h)
			counts[ok]++
			if why := heap.Check(h); (why == api.OK) != ok {
				t.Fatalf("Check of heap %d with another %s: error %d", i, what, why)
			}
		}
		for page := range h.Pages.Used.N {
			h.Pages.Used.W[0] ^= 1 << page
			try("page")
			h.Pages.Used.W[0] ^= 1 << page
		}
		for k, s := range h.Spans {
			for slot := range s.Alloc.N {
				s.Alloc.W[0] ^= 1 << slot
				try("Alloc")
				s.Mark.W[0] ^= 1 << slot
				try("Alloc and Mark")
				s.Alloc.W[0] ^= 1 << slot
				try("Mark")
				s.Mark.W[0] ^= 1 << slot
			}
			h.Spans[k].Swept = !s.Swept
			try("Swept")
			h.Spans[k] = s
			for _, n := range []int{-1, 0, 1, 2, 3, 4, 8, 16, 24, 1023, 1024} {
				h.Spans[k].First = n
				try("First")
				h.Spans[k] = s
				h.Spans[k].Pages = n
				try("Pages")
				h.Spans[k] = s
				h.Spans[k].Size = n
				try("Size")
				h.Spans[k] = s
			}
		}
	}
	if counts[true] < 20 || counts[false] < 20 {
		t.Error("too few of a kind:", counts)
	}
}

// TestInvalidComesFirst: a heap that is not valid is refused as that, whatever else is wrong.
func TestInvalidComesFirst(t *testing.T) {
	for i, h := range sample.BadHeaps() {
		refused := func(name string, out api.Heap, zero bool, why api.Errno) {
			t.Helper()
			if !empty(out) || !zero || why != api.ErrForm {
				t.Errorf("%s of invalid heap %d: error %d", name, i, why)
			}
		}
		for _, s := range []api.Shape{{N: 3}, {N: 48}, {N: 49}, {N: -1, Mask: 1}} {
			out, addr, why := heap.New(h, s, true)
			refused("New", out, addr == 0, why)
		}
		for _, addr := range []uint64{0, 7, 16, 17, 20, 32, math.MaxUint64} {
			s, why := heap.At(h, addr)
			refused("At", api.Heap{}, s == api.Shape{}, why)
			out, was, why := heap.Mark(h, addr)
			refused("Mark", out, !was, why)
			marked, why := heap.Marked(h, addr)
			refused("Marked", api.Heap{}, !marked, why)
			for _, field := range []int{math.MinInt, -1, 0, 1, 3, math.MaxInt} {
				w, ref, why := heap.Load(h, addr, field)
				refused("Load", api.Heap{}, w == 0 && !ref, why)
				out, why := heap.Store(h, addr, field, 16, field == 0)
				refused("Store", out, true, why)
			}
		}
		out, why := heap.Unmark(h)
		refused("Unmark", out, true, why)
		out, why = heap.Turn(h)
		refused("Turn", out, true, why)
		for _, first := range []int{math.MinInt, -1, 0, 1, 2, 3, math.MaxInt} {
			out, freed, why := heap.Clean(h, first)
			refused("Clean", out, len(freed) == 0, why)
		}
		l, why := heap.Objects(h)
		refused("Objects", api.Heap{}, len(l) == 0, why)
	}
}

// 7.2

func TestNew(t *testing.T) {
	for i, h := range sample.Heaps() {
		for _, s := range shapes() {
			for _, black := range []bool{false, true} {
				want, at, no := added(h, s, black)
				out, addr, why := heap.New(h, s, black)
				if !same(out, want) || addr != at || why != no {
					t.Fatalf("New in heap %d, %v, %v: %d, error %d; want %d, %d", i, s, black, addr, why, at, no)
				}
			}
		}
	}
}

// TestNewTillFull: one object after the other, until none of its shape goes in any more; what is free in the end is too little for it.
func TestNewTillFull(t *testing.T) {
	for _, start := range small() {
		for _, s := range []api.Shape{{}, {N: 1, Mask: 1}, {N: 3}, {N: 7}, {N: 15}, {N: 16}, {N: 33}, {N: 48, Mask: 1 << 47}} {
			h := start
			for n := 0; ; n++ {
				want, at, no := added(h, s, n%2 == 0)
				out, addr, why := heap.New(h, s, n%2 == 0)
				if !same(out, want) || addr != at || why != no || !valid(out) {
					t.Fatalf("New of object %d, %v: %d, error %d; want %d, %d", n, s, addr, why, at, no)
				}
				if why != api.OK {
					break
				}
				h = out
			}
		}
	}
}

// TestNewFull: there is no space without free pages, without enough of them side by side, and without a span more.
func TestNewFull(t *testing.T) {
	full := func(h api.Heap, n int, want api.Errno) {
		t.Helper()
		out, addr, why := heap.New(h, api.Shape{N: n}, true)
		if why != want || want != api.OK && (!same(out, h) || addr != 0) {
			t.Errorf("New of %d fields: %d, error %d; want %d", n, addr, why, want)
		}
	}
	only := sample.Heap(1, nil)
	full(only, 0, api.ErrFull)
	full(only, 48, api.ErrFull)
	free := sample.Heap(4, nil)
	full(free, 47, api.OK)
	full(free, 48, api.ErrFull)
	// Three pages are free, and no two of them are side by side.
	apart := sample.Heap(6, []api.Span{sample.Span(2, 1, 16, 0, 0), sample.Span(4, 1, 16, 0, 0)})
	full(apart, 15, api.OK)
	full(apart, 16, api.ErrFull)
	spans := sample.FullSpans()
	full(spans, 1, api.OK)
	full(spans, 2, api.ErrFull)
	full(spans, 16, api.ErrFull)
	spans, _, _ = heap.New(spans, api.Shape{}, false)
	full(spans, 1, api.ErrFull)
	full(sample.FullPages(), 0, api.ErrFull)
}

// TestNewUnswept: a span that is not Swept has no slot for a new object.
func TestNewUnswept(t *testing.T) {
	h := sample.Heap(4, []api.Span{sample.Unswept(sample.Span(1, 1, 4, 0, 0))})
	h, addr, why := heap.New(h, api.Shape{N: 3}, false)
	if addr != 32 || why != api.OK {
		t.Error(addr, why)
	}
	if l, why := heap.Objects(h); !slices.Equal(l, []uint64{32}) || why != api.OK {
		t.Error(l, why)
	}
}

// TestNewInvalidShape: a shape that is not valid is refused as that, also where there is no space.
func TestNewInvalidShape(t *testing.T) {
	for i, h := range sample.Heaps() {
		for _, s := range badShapes() {
			if out, addr, why := heap.New(h, s, true); !same(out, h) || addr != 0 || why != api.ErrForm {
				t.Errorf("New in heap %d, %v: %d, error %d", i, s, addr, why)
			}
		}
	}
}

func TestAt(t *testing.T) {
	for i, h := range sample.Heaps() {
		live := lives(h)
		for _, addr := range addrs(h) {
			no := addressError(h, addr)
			if s, why := heap.At(h, addr); s != live[addr].shape || why != no {
				t.Errorf("At of heap %d, %d: %v, error %d; want %v, %d", i, addr, s, why, live[addr].shape, no)
			}
		}
	}
}

func TestLoad(t *testing.T) {
	for i, h := range small() {
		live := lives(h)
		for _, addr := range addrs(h) {
			s := live[addr].shape
			for _, field := range append(sample.Ints(), -2, -1, 0, 1, 2, s.N/2, s.N-1, s.N, s.N+1, 48, 255, 256) {
				no, want, is := addressError(h, addr), uint64(0), false
				if no == api.OK && (field < 0 || field >= s.N) {
					no = api.ErrField
				} else if no == api.OK {
					want, is = h.Arena.Words[addr+1+uint64(field)], isRef(s, field)
				}
				if w, ref, why := heap.Load(h, addr, field); w != want || ref != is || why != no {
					t.Fatalf("Load of heap %d, %d, %d: %d, %v, error %d; want %d, %v, %d", i, addr, field, w, ref, why, want, is, no)
				}
			}
		}
	}
}

func TestStore(t *testing.T) {
	for i, h := range small() {
		live := lives(h)
		refs := []uint64{0, 1, 16, 17, 18, 48, 80, 1<<32 + 16, math.MaxUint64}
		for addr := range live {
			refs = append(refs, addr)
		}
		for addr := range addrs(h)[:8] {
			refs = append(refs, uint64(addr))
		}
		for _, addr := range addrs(h) {
			s := live[addr].shape
			fields := []int{math.MinInt, -1, 0, 1, 2, s.N / 2, s.N - 1, s.N, 256, math.MaxInt}
			if no := addressError(h, addr); no != api.OK {
				fields = []int{-1, 0}
			}
			for _, field := range fields {
				for _, w := range refs {
					for _, ref := range []bool{false, true} {
						stored(t, i, h, addr, field, w, ref)
					}
				}
			}
		}
	}
}

// stored holds one call of Store to the chapter's words.
func stored(t *testing.T, i int, h api.Heap, addr uint64, field int, w uint64, ref bool) {
	t.Helper()
	want, no := h, storeError(h, addr, field, w, ref)
	if no == api.OK {
		want = sample.CopyHeap(h)
		want.Arena.Words[addr+1+uint64(field)] = w
	}
	if out, why := heap.Store(h, addr, field, w, ref); !same(out, want) || why != no {
		t.Fatalf("Store in heap %d, %d, %d, %d, %v: error %d; want %d", i, addr, field, w, ref, why, no)
	}
}

// TestStoreErrors: of several errors, the first one in the chapter's order is returned.
func TestStoreErrors(t *testing.T) {
	h := sample.ThreeObjects()
	for _, x := range []struct {
		addr  uint64
		field int
		w     uint64
		ref   bool
		want  api.Errno
	}{
		{0, -1, 17, true, api.ErrNil}, {0, 1, 17, true, api.ErrNil},
		{17, -1, 17, true, api.ErrDead}, {17, 0, 17, true, api.ErrDead},
		{16, 3, 17, true, api.ErrField}, {16, -1, 17, false, api.ErrField}, {16, math.MaxInt, 17, true, api.ErrField}, {16, math.MinInt, 0, false, api.ErrField},
		{16, 1, 17, true, api.ErrType}, {16, 0, 17, false, api.ErrType}, {16, 0, 0, false, api.ErrType}, {16, 1, 0, true, api.ErrType},
		{16, 0, 17, true, api.ErrDead}, {16, 2, 24, true, api.ErrDead}, {32, 0, 48, true, api.ErrDead},
		{16, 0, 0, true, api.OK}, {16, 1, 17, false, api.OK}, {16, 2, 16, true, api.OK},
	} {
		if out, why := heap.Store(h, x.addr, x.field, x.w, x.ref); why != x.want || why != api.OK && !same(out, h) {
			t.Errorf("Store %v: error %d", x, why)
		}
	}
}

// 7.3

func TestMark(t *testing.T) {
	for i, h := range sample.Heaps() {
		live := lives(h)
		for _, addr := range addrs(h) {
			x, no, want := live[addr], addressError(h, addr), h
			if no == api.OK {
				want = sample.CopyHeap(h)
				put(want.Spans[x.at].Mark, x.slot, true)
			}
			out, was, why := heap.Mark(h, addr)
			if !same(out, want) || was != x.marked || why != no {
				t.Errorf("Mark in heap %d, %d: %v, error %d; want %v, %d", i, addr, was, why, x.marked, no)
			}
			if marked, why := heap.Marked(h, addr); marked != x.marked || why != no {
				t.Errorf("Marked of heap %d, %d: %v, error %d; want %v, %d", i, addr, marked, why, x.marked, no)
			}
			if marked, why := heap.Marked(out, addr); marked != (no == api.OK) || why != no {
				t.Errorf("Marked of heap %d, %d, after Mark: %v, error %d", i, addr, marked, why)
			}
		}
	}
}

func TestUnmark(t *testing.T) {
	for i, h := range sample.Heaps() {
		want, no := h, api.ErrState
		if sweptAll(h) {
			want, no = sample.CopyHeap(h), api.OK
			for _, s := range want.Spans {
				clear(s.Mark.W)
			}
		}
		if out, why := heap.Unmark(h); !same(out, want) || why != no {
			t.Errorf("Unmark of heap %d: error %d; want %d", i, why, no)
		}
	}
}

// TestOneUnswept: one span that is not Swept, be it the first one or the last one and without an object, is enough to refuse Unmark and Turn.
func TestOneUnswept(t *testing.T) {
	for at := range 3 {
		h := sample.Heap(5, []api.Span{sample.Span(1, 1, 2, 0, 0), sample.Span(2, 1, 4, 0, 0), sample.Span(3, 2, 0, 0, 0)})
		h.Spans[at].Swept = false
		if out, why := heap.Unmark(h); !same(out, h) || why != api.ErrState {
			t.Error("Unmark:", at, why)
		}
		if out, why := heap.Turn(h); !same(out, h) || why != api.ErrState {
			t.Error("Turn:", at, why)
		}
	}
}

func TestTurn(t *testing.T) {
	counts := map[api.Errno]int{}
	for i, h := range small() {
		l, _ := heap.Objects(h)
		// All sets of marks of the first six objects, the others being marked together.
		for set := range 1 << min(len(l), 7) {
			h := sample.CopyHeap(h)
			for _, x := range lives(h) {
				if sweptAll(h) {
					put(h.Spans[x.at].Mark, x.slot, set>>min(slices.Index(l, x.addr), 6)&1 == 1)
				}
			}
			want, no := turned(h)
			counts[no]++
			if out, why := heap.Turn(h); !same(out, want) || why != no {
				t.Fatalf("Turn of heap %d with the marks %b: error %d; want %d", i, set, why, no)
			}
		}
	}
	if counts[api.OK] < 20 || counts[api.ErrState] < 20 {
		t.Error("too few of a kind:", counts)
	}
	for _, h := range []api.Heap{sample.FullPages(), sample.FullSpans()} {
		if out, why := heap.Turn(h); !same(out, h) || why != api.ErrState {
			t.Error("Turn where marked objects refer to others: error", why)
		}
	}
}

func TestClean(t *testing.T) {
	for i, h := range sample.Heaps() {
		old := sample.CopyHeap(h)
		for k := range old.Spans {
			old.Spans[k].Swept = false
			if i%2 == 0 {
				clear(old.Spans[k].Mark.W)
			}
		}
		if !valid(old) {
			old = h
		}
		for _, h := range []api.Heap{h, old} {
			firsts := append(sample.Ints(), -2, -1, 0, 1023, 1024)
			for page := range min(h.Pages.Used.N, 20) {
				firsts = append(firsts, page)
			}
			for _, first := range firsts {
				want, gone, no := cleaned(h, first)
				out, freed, why := heap.Clean(h, first)
				if !same(out, want) || !slices.Equal(freed, gone) || why != no {
					t.Fatalf("Clean of heap %d, %d: %d, error %d; want %d, %d", i, first, freed, why, gone, no)
				}
			}
		}
	}
}

// TestCleanSlots: whichever slots of a span are marked, exactly the others are freed, and a span without any is removed.
func TestCleanSlots(t *testing.T) {
	for _, x := range []struct{ pages, size, slots, n int }{{1, 2, 8, 1}, {1, 4, 4, 3}, {1, 8, 2, 7}, {1, 16, 1, 15}, {3, 0, 1, 40}} {
		for alloc := range uint64(1) << x.slots {
			var objects []sample.Object
			for slot := range x.slots {
				if alloc>>slot&1 == 1 {
					objects = append(objects, sample.Object{Addr: uint64(32 + x.size*slot), N: x.n, Fields: slices.Repeat([]uint64{9}, x.n)})
				}
			}
			for _, mark := range []uint64{0, alloc, alloc & 1, alloc &^ 1, alloc & 0xaa, alloc & 0x3c} {
				h := sample.Heap(6, []api.Span{sample.Span(1, 1, 2, 0, 0), sample.Unswept(sample.Span(2, x.pages, x.size, alloc, mark))}, objects...)
				want, gone, no := cleaned(h, 2)
				out, freed, why := heap.Clean(h, 2)
				if !valid(h) || !valid(out) || !same(out, want) || !slices.Equal(freed, gone) || why != no || why != api.OK {
					t.Fatalf("Clean of slots of %d words, %b, of which %b are marked: %d, error %d; want %d", x.size, alloc, mark, freed, why, gone)
				}
				if left := 1 + min(1, int(mark)); len(out.Spans) != left {
					t.Fatalf("Clean of slots of %d words, %b, of which %b are marked: %d spans", x.size, alloc, mark, len(out.Spans))
				}
			}
		}
	}
}

func TestObjects(t *testing.T) {
	for i, h := range sample.Heaps() {
		var want []uint64
		for _, x := range things(h) {
			if x.current {
				want = append(want, x.addr)
			}
		}
		if l, why := heap.Objects(h); !slices.Equal(l, want) || why != api.OK {
			t.Errorf("Objects of heap %d: %d, error %d; want %d", i, l, why, want)
		}
	}
}
