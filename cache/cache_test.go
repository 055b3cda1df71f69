package cache_test

import (
	"math"
	"slices"
	"testing"

	"besom/api"
	"besom/cache"
	"besom/heap"
	"besom/reach"
	"besom/sample"
)

// TestSamplesAreValid: what the tests try is valid, and in all phases, with spans that are owned and spans that are not.
func TestSamplesAreValid(t *testing.T) {
	phases, owned, free := map[api.Phase]int{}, 0, 0
	for i, c := range caches(300) {
		if why := reach.Check(c.Gc); why != api.OK || !valid(c) {
			t.Errorf("cache %d: error %d", i, why)
		}
		phases[c.Gc.Phase]++
		for _, s := range c.Gc.Marker.Heap.Spans {
			if ownerOf(c, s.First) >= 0 {
				owned++
			} else {
				free++
			}
		}
	}
	for phase := range api.PhaseCount {
		if phases[phase] < 30 {
			t.Error(phases)
		}
	}
	if owned < 200 || free < 200 {
		t.Error(owned, free)
	}
}

// TestInvalidComesFirst: what is not valid comes before all other errors, and there is no result.
func TestInvalidComesFirst(t *testing.T) {
	l := append(mutators(), 16, 1023)
	for i, c := range sample.BadCaches() {
		for k, s := range []api.Shape{{}, {N: 7}, {N: 48}, {N: 49}} {
			if got, addr, why := cache.New(c, l[(i+k)%len(l)], s); !same(got, api.Cache{}) || addr != 0 || why != api.ErrForm {
				t.Errorf("New in invalid cache %d: %d, error %d", i, addr, why)
			}
		}
		for _, who := range [][]int{nil, {0}, {0, 4}, {-1}} {
			if got, why := cache.Flush(c, who...); !same(got, api.Cache{}) || why != api.ErrForm {
				t.Errorf("Flush of invalid cache %d: error %d", i, why)
			}
		}
		if got, n, why := cache.Finish(c); !same(got, api.Cache{}) || n != 0 || why != api.ErrForm {
			t.Errorf("Finish of invalid cache %d: %d, error %d", i, n, why)
		}
		if got, freed, why := cache.Sweep(c); !same(got, api.Cache{}) || len(freed) != 0 || why != api.ErrForm {
			t.Errorf("Sweep of invalid cache %d: %d, error %d", i, freed, why)
		}
		for _, first := range []int{0, 1, 2, l[i%len(l)]} {
			if who, why := cache.Owner(c, first); who != 0 || why != api.ErrForm {
				t.Errorf("Owner in invalid cache %d: %d, error %d", i, who, why)
			}
		}
	}
}

// 22.1

func TestMake(t *testing.T) {
	for i, g := range sample.Gcs() {
		for _, n := range mutators() {
			got, why := cache.Make(g, n)
			if n < 1 || n > 4 {
				if !same(got, api.Cache{}) || why != api.ErrRange {
					t.Errorf("Make of heap %d for %d: error %d", i, n, why)
				}
				continue
			}
			if want := sample.Cache(g, sample.Nobody(n)...); !same(got, want) || why != api.OK {
				t.Errorf("Make of heap %d for %d: %v, error %d", i, n, got, why)
			}
		}
	}
	for i, g := range sample.BadGcs() {
		for _, n := range []int{-1, 0, 1, 4, 5, math.MaxInt} {
			if got, why := cache.Make(g, n); !same(got, api.Cache{}) || why != api.ErrForm {
				t.Errorf("Make of invalid heap %d for %d: error %d", i, n, why)
			}
		}
	}
}

func TestCheck(t *testing.T) {
	for i, c := range append(caches(200), sample.Caches()...) {
		if why := cache.Check(c); why != api.OK {
			t.Errorf("Check of cache %d: error %d", i, why)
		}
	}
	for i, c := range sample.BadCaches() {
		if why := cache.Check(c); why != api.ErrForm {
			t.Errorf("Check of invalid cache %d: error %d", i, why)
		}
	}
}

// TestCheckOwned: whatever two mutators own, Check answers what the chapter's words say, and so it does whatever is Swept.
func TestCheckOwned(t *testing.T) {
	counts := map[bool]int{}
	for _, g := range []api.Gc{sample.FourSizes(), sample.SixLists(), sample.SixMarked(api.PhaseMark, 16), sample.SixMarked(api.PhaseLate, 16, 20, 22, 24)} {
		for a := -1; a < 10; a++ {
			for b := -1; b < 10; b++ {
				for class := range 4 {
					for other := range 4 {
						owned := sample.CopyOwned(sample.Nobody(2))
						owned[0][class], owned[1][other] = a, b
						c := sample.Cache(g, owned...)
						ok := valid(c)
						counts[ok]++
						if why := cache.Check(c); why != api.OK && why != api.ErrForm || (why == api.OK) != ok {
							t.Errorf("phase %d, %d: error %d", g.Phase, owned, why)
						}
					}
				}
			}
		}
	}
	if counts[true] < 100 || counts[false] < 100 {
		t.Error(counts)
	}
	// What is owned is Swept, so that sweeping leaves it alone.
	for _, at := range []int{0, 1, 2, 3} {
		c := sample.Cache(sample.FourSizes(), []int{1, 2, 3, 4})
		s := &c.Gc.Marker.Heap.Spans[at]
		copy(s.Mark.W, s.Alloc.W)
		if why := cache.Check(c); why != api.OK {
			t.Error("all marked:", at, why)
		}
		s.Swept = false
		if why := cache.Check(c); why != api.ErrForm || reach.Check(c.Gc) != api.OK {
			t.Error("not Swept:", at, why)
		}
	}
}

// TestCounts: hits and misses may be any numbers.
func TestCounts(t *testing.T) {
	c := sample.Cache(sample.FourSizes(), []int{0, 0, 0, 4}, []int{1, 0, 0, 0})
	for _, n := range []uint64{0, 1, 1 << 32, 1 << 40, 1<<40 + 1, 1 << 63, math.MaxUint64} {
		for i := range 2 {
			c.Hits[i], c.Misses[1-i] = n, n
			if why := cache.Check(c); why != api.OK {
				t.Error(n, why)
			}
		}
	}
}

func TestOwner(t *testing.T) {
	owners, errors := map[int]int{}, 0
	for i, c := range append(caches(200), sample.Caches()...) {
		for _, first := range append(mutators(), 6, 7, 8, 9, 10, 11, 12, 16, 32, 48, 255, 256, 257, 1023, 1024) {
			want, no := owner(c, first)
			if who, why := cache.Owner(c, first); who != want || why != no {
				t.Errorf("Owner in cache %d of page %d: %d, error %d; want %d, %d", i, first, who, why, want, no)
			}
			if no == api.OK {
				owners[want]++
			} else {
				errors++
			}
		}
	}
	for who := -1; who < 4; who++ {
		if owners[who] < 10 {
			t.Error(owners)
		}
	}
	if errors < 500 {
		t.Error(errors)
	}
}

// 22.2

func TestNew(t *testing.T) {
	p := sample.Picks(202)
	whys, ways := map[api.Errno]int{}, map[way]int{}
	for i, c := range append(caches(300), sample.Caches()...) {
		l := shapes()
		for range 25 {
			s, who := l[p.Below(len(l))], p.Below(len(c.Spans)+2)-p.Below(9)/8
			want, at, no, how := made(c, who, s)
			got, addr, why := cache.New(c, who, s)
			if !same(got, want) || addr != at || why != no {
				t.Fatalf("New in cache %d, %d, %v: %d, error %d; want %d, %d", i, who, s, addr, why, at, no)
			}
			whys[no]++
			ways[how]++
			c = got
		}
	}
	for _, why := range []api.Errno{api.OK, api.ErrTask, api.ErrForm, api.ErrFull} {
		if whys[why] < 200 {
			t.Error(whys)
		}
	}
	for how := none; how < wayCount; how++ {
		if ways[how] < 30 {
			t.Error(ways)
		}
	}
}

// TestNewErrors: the mutator comes first, then the shape, then the room; nothing changes, not even what is owned, swept or counted.
func TestNewErrors(t *testing.T) {
	full := sample.Gc(api.PhaseSweep, sample.Off(sample.Heap(4, []api.Span{sample.Unswept(sample.Span(1, 1, 4, 15, 15)), sample.Span(2, 1, 8, 3, 0), sample.Span(3, 1, 2, 255, 0)}), 1))
	for slot := range 8 {
		full.Marker.Heap.Arena.Words[48+2*slot] = sample.Header(1, 0)
		full.Marker.Heap.Arena.Words[16+4*(slot%4)] = sample.Header(3, 0)
		full.Marker.Heap.Arena.Words[32+8*(slot%2)] = sample.Header(7, 0)
	}
	c := sample.Cache(full, []int{3, 0, 2, 0}, []int{0, 0, 0, 0})
	c.Hits[0], c.Misses[0] = 5, 6
	if why := cache.Check(c); why != api.OK {
		t.Fatal(why)
	}
	for _, x := range []struct {
		who  int
		s    api.Shape
		want api.Errno
	}{
		{2, api.Shape{N: 49}, api.ErrTask}, {-1, api.Shape{N: 1}, api.ErrTask}, {math.MinInt, api.Shape{}, api.ErrTask}, {math.MaxInt, api.Shape{N: 48}, api.ErrTask}, {1 << 32, api.Shape{}, api.ErrTask},
		{0, api.Shape{N: 49}, api.ErrForm}, {1, api.Shape{N: -1}, api.ErrForm}, {0, api.Shape{N: 2, Mask: 4}, api.ErrForm}, {1, api.Shape{N: math.MaxInt}, api.ErrForm}, {0, api.Shape{N: math.MinInt}, api.ErrForm}, {0, api.Shape{N: 48, Mask: math.MaxUint64}, api.ErrForm},
		{0, api.Shape{}, api.ErrFull}, {0, api.Shape{N: 2}, api.ErrFull}, {0, api.Shape{N: 7}, api.ErrFull}, {0, api.Shape{N: 15}, api.ErrFull}, {0, api.Shape{N: 16}, api.ErrFull}, {0, api.Shape{N: 48}, api.ErrFull},
		{1, api.Shape{N: 1}, api.ErrFull}, {1, api.Shape{N: 3}, api.ErrFull}, {1, api.Shape{N: 4}, api.ErrFull}, {1, api.Shape{N: 8}, api.ErrFull}, {1, api.Shape{N: 32}, api.ErrFull},
	} {
		if got, addr, why := cache.New(c, x.who, x.s); !same(got, c) || addr != 0 || why != x.want {
			t.Errorf("New of %v for %d: %d, error %d; want %d", x.s, x.who, addr, why, x.want)
		}
	}
}

// place is where an object is expected, and who owns the spans of its class then.
type place struct {
	who, fields int
	addr        uint64
	owned       []int
}

// follow allocates objects one after the other.
func follow(t *testing.T, c api.Cache, l ...place) api.Cache {
	t.Helper()
	for i, x := range l {
		got, addr, why := cache.New(c, x.who, api.Shape{N: x.fields})
		if addr != x.addr || why != api.OK || !slices.Equal(got.Spans[x.who], x.owned) {
			t.Fatalf("object %d: %d, error %d, owned %d; want %d, %d", i, addr, why, got.Spans[x.who], x.addr, x.owned)
		}
		c = got
	}
	return c
}

// TestNewSpans: a mutator fills its span, takes the first one that nobody owns and that has room, and makes another one when there is none.
func TestNewSpans(t *testing.T) {
	g := sample.FourSizes()
	g.Marker.Heap.Spans[5] = sample.Span(7, 1, 4, 7, 2)
	g.Marker.Heap.Arena.Words[113] = 0
	c := follow(t, sample.Cache(g, sample.Nobody(2)...),
		place{0, 3, 36, []int{0, 2, 0, 0}}, place{1, 3, 124, []int{0, 7, 0, 0}}, place{0, 2, 44, []int{0, 2, 0, 0}},
		place{0, 3, 128, []int{0, 8, 0, 0}}, place{1, 3, 144, []int{0, 9, 0, 0}}, place{1, 2, 148, []int{0, 9, 0, 0}}, place{0, 2, 132, []int{0, 8, 0, 0}})
	if !slices.Equal(c.Hits, []uint64{2, 1}) || !slices.Equal(c.Misses, []uint64{2, 2}) {
		t.Error(c.Hits, c.Misses)
	}
	// No page is left, and only the spans of the other one have room.
	c = follow(t, c, place{0, 3, 136, []int{0, 8, 0, 0}})
	if got, addr, why := cache.New(c, 0, api.Shape{N: 3}); !same(got, c) || addr != 0 || why != api.ErrFull {
		t.Error(addr, why)
	}
	c, _ = cache.Flush(c, 1)
	follow(t, c, place{0, 3, 152, []int{0, 9, 0, 0}}, place{0, 3, 156, []int{0, 9, 0, 0}})
}

// TestNewClasses: a mutator has a span of each class at a time.
func TestNewClasses(t *testing.T) {
	g := sample.Gc(api.PhaseIdle, sample.Off(sample.Heap(12, nil), 1))
	c := follow(t, sample.Cache(g, sample.Nobody(2)...),
		place{0, 0, 16, []int{1, 0, 0, 0}}, place{0, 2, 32, []int{1, 2, 0, 0}}, place{0, 4, 48, []int{1, 2, 3, 0}}, place{0, 8, 64, []int{1, 2, 3, 4}},
		place{1, 1, 80, []int{5, 0, 0, 0}}, place{1, 15, 96, []int{5, 0, 0, 6}}, place{0, 1, 18, []int{1, 2, 3, 4}}, place{0, 3, 36, []int{1, 2, 3, 4}},
		place{0, 7, 56, []int{1, 2, 3, 4}}, place{0, 15, 112, []int{1, 2, 3, 7}}, place{0, 16, 128, []int{1, 2, 3, 7}}, place{1, 0, 82, []int{5, 0, 0, 6}})
	if !slices.Equal(c.Hits, []uint64{3, 1}) || !slices.Equal(c.Misses, []uint64{6, 2}) {
		t.Error(c.Hits, c.Misses)
	}
}

// TestNewSweeps: without a span that has room, spans are swept one by one until one has, and a page is taken only when all are swept; what goes as a whole leaves pages.
func TestNewSweeps(t *testing.T) {
	l := []api.Span{sample.Unswept(sample.Span(1, 1, 8, 1, 1)), sample.Unswept(sample.Span(2, 1, 4, 3, 0)), sample.Unswept(sample.Span(3, 1, 4, 15, 7)), sample.Unswept(sample.Span(4, 1, 16, 1, 0))}
	var objects []sample.Object
	for _, s := range l {
		for slot := range s.Alloc.N {
			if s.Alloc.W[0]>>slot&1 == 1 {
				objects = append(objects, sample.Object{Addr: uint64(16*s.First + slot*s.Size), N: s.Size - 1})
			}
		}
	}
	start := sample.Cache(sample.Gc(api.PhaseSweep, sample.Off(sample.Heap(6, l, objects...), 1)), sample.Nobody(2)...)
	for i, x := range []struct {
		fields int
		addr   uint64
		rest   int
		phase  api.Phase
		spans  int
	}{
		{7, 24, 3, api.PhaseSweep, 4},
		{3, 60, 1, api.PhaseSweep, 3},
		{15, 32, 0, api.PhaseIdle, 3},
		{1, 32, 0, api.PhaseIdle, 3},
		{16, 64, 0, api.PhaseIdle, 3},
	} {
		got, addr, why := cache.New(start, i%2, api.Shape{N: x.fields})
		left := 0
		for _, s := range got.Gc.Marker.Heap.Spans {
			if !s.Swept {
				left++
			}
		}
		if addr != x.addr || left != x.rest || got.Gc.Phase != x.phase || len(got.Gc.Marker.Heap.Spans) != x.spans || why != api.OK {
			t.Errorf("object %d: %d, error %d, %d spans left, phase %d, %d spans", i, addr, why, left, got.Gc.Phase, len(got.Gc.Marker.Heap.Spans))
		}
	}
}

// TestNewMark: a new object is marked while objects are marked, and only then; in each phase it is current, its fields are 0, and nothing else is changed of the heap.
func TestNewMark(t *testing.T) {
	for i, c := range caches(150) {
		for _, s := range []api.Shape{{N: 1, Mask: 1}, {N: 3, Mask: 4}, {N: 9}, {N: 20, Mask: 1 << 19}} {
			got, addr, why := cache.New(c, i%len(c.Spans), s)
			if why != api.OK {
				continue
			}
			marked, no := heap.Marked(got.Gc.Marker.Heap, addr)
			before, after := sample.Objects(c.Gc.Marker.Heap), sample.Objects(got.Gc.Marker.Heap)
			at := slices.IndexFunc(after, func(o sample.Object) bool { return o.Addr == addr })
			if marked != c.Gc.Marker.On || no != api.OK || at < 0 {
				t.Fatalf("cache %d, %v: marked %v, error %d", i, s, marked, no)
			}
			fresh := after[at]
			if fresh.N != s.N || fresh.Mask != s.Mask || slices.ContainsFunc(fresh.Fields, func(w uint64) bool { return w != 0 }) {
				t.Fatalf("cache %d, %v: %v", i, s, fresh)
			}
			others := func(a, b sample.Object) bool {
				return a.Addr == b.Addr && a.N == b.N && a.Mask == b.Mask && slices.Equal(a.Fields, b.Fields)
			}
			if !slices.EqualFunc(slices.Delete(after, at, at+1), before, others) || !sample.SameGreys(got.Gc.Marker.Grey, c.Gc.Marker.Grey) {
				t.Fatalf("cache %d, %v: another object changes", i, s)
			}
		}
	}
}

// TestNewFullSpans: where there are as many spans as there may be, no other one is made, though there are free pages; a hit, and a span that nobody owns, need none.
func TestNewFullSpans(t *testing.T) {
	c := sample.Cache(sample.Gc(api.PhaseIdle, sample.Off(sample.FullSpans(), 1)), sample.Nobody(2)...)
	for _, n := range []int{2, 7, 15, 16, 48} {
		if got, addr, why := cache.New(c, 0, api.Shape{N: n}); !same(got, c) || addr != 0 || why != api.ErrFull {
			t.Error(n, addr, why)
		}
	}
	last := follow(t, c, place{0, 1, 256 * 16, []int{256, 0, 0, 0}})
	for who := range 2 {
		if got, addr, why := cache.New(last, who, api.Shape{N: 1}); !same(got, last) || addr != 0 || why != api.ErrFull {
			t.Error(who, addr, why)
		}
	}
	owned := sample.Cache(c.Gc, []int{0, 0, 0, 0}, []int{256, 0, 0, 0})
	if got, addr, why := cache.New(owned, 0, api.Shape{N: 1}); !same(got, owned) || addr != 0 || why != api.ErrFull {
		t.Error("it is another one's:", addr, why)
	}
	follow(t, owned, place{1, 1, 256 * 16, []int{256, 0, 0, 0}})
}

// TestNewLarge: in the greatest heap, the only span that is free is found after all is swept, and so is a page.
func TestNewLarge(t *testing.T) {
	for _, h := range []api.Heap{sample.FullPages(), sample.FullSpans()} {
		for i := range h.Spans {
			s := &h.Spans[i]
			copy(s.Mark.W, s.Alloc.W)
			s.Swept = false
		}
		last := &h.Spans[255]
		last.Mark.W[0] = 0
		for _, o := range sample.Objects(h) {
			clear(h.Arena.Words[o.Addr+1:][:o.N])
		}
		c := sample.Cache(sample.Gc(api.PhaseSweep, sample.Off(h, 4)), sample.Nobody(4)...)
		for _, n := range []int{1, 15, 48} {
			want, at, no, _ := made(c, 3, api.Shape{N: n})
			got, addr, why := cache.New(c, 3, api.Shape{N: n})
			if !same(got, want) || addr != at || why != no {
				t.Errorf("New of %d fields: %d, error %d; want %d, %d", n, addr, why, at, no)
			}
		}
	}
}

// TestCountsWrap: a count that is as great as a number may be goes on at 0.
func TestCountsWrap(t *testing.T) {
	c := sample.Cache(sample.FourSizes(), []int{1, 0, 0, 0})
	c.Hits[0], c.Misses[0] = math.MaxUint64, math.MaxUint64
	for i, n := range []int{1, 7} {
		got, _, why := cache.New(c, 0, api.Shape{N: n})
		if why != api.OK || got.Hits[0] != math.MaxUint64*uint64(i) || got.Misses[0] != math.MaxUint64*uint64(1-i) {
			t.Error(n, got.Hits, got.Misses, why)
		}
	}
}

// 22.3

func TestFlush(t *testing.T) {
	counts := map[api.Errno]int{}
	taken := 0
	for i, c := range append(caches(200), sample.Caches()...) {
		for _, who := range [][]int{
			nil, {}, {0}, {1}, {2}, {3}, {0, 0}, {0, 1}, {1, 0, 1}, {3, 2, 1, 0}, {0, 1, 2}, {0, -1}, {4}, {0, 4}, {-1}, {-1, 0},
			{math.MinInt}, {math.MaxInt}, {0, 1 << 32}, {1<<32 + 1}, make([]int, 1000),
		} {
			want, no := flushed(c, who...)
			if got, why := cache.Flush(c, who...); !same(got, want) || why != no {
				t.Errorf("Flush of cache %d, %d: %v, error %d; want %v, %d", i, who, got.Spans, why, want.Spans, no)
			}
			counts[no]++
			if !same(want, c) {
				taken++
			}
		}
	}
	if counts[api.OK] < 500 || counts[api.ErrTask] < 500 || taken < 500 {
		t.Error(counts, taken)
	}
}

// finishing are caches in which the marking may be ended, and others.
func finishing(n int) []api.Cache {
	out := caches(n)
	p := sample.Picks(203)
	for i := range n {
		g := sample.SomeGc(&p, 1+i%9, 1+i%4)
		if g.Marker.On {
			g.Marker = sample.Settled(g.Marker)
		}
		out = append(out, sample.SomeCache(&p, g, 1+i/4%4))
	}
	return out
}

func TestFinish(t *testing.T) {
	counts, ends, owned := map[api.Errno]int{}, map[api.Phase]int{}, 0
	for i, c := range finishing(400) {
		for more := true; more; {
			want, n, no := finished(c)
			got, many, why := cache.Finish(c)
			if !same(got, want) || many != n || why != no {
				t.Fatalf("Finish of cache %d: %d, error %d; want %d, %d", i, many, why, n, no)
			}
			counts[no]++
			more = no == api.OK
			if more {
				ends[got.Gc.Phase]++
			}
			if more && got.Gc.Phase == api.PhaseSweep && !slices.EqualFunc(c.Spans, got.Spans, slices.Equal) {
				owned++
			}
			if got.Gc.Marker.On {
				got.Gc.Marker = sample.Settled(got.Gc.Marker)
			}
			c = got
		}
	}
	if counts[api.OK] < 300 || counts[api.ErrState] < 300 || counts[api.ErrFull] < 10 || ends[api.PhaseMark] < 20 || ends[api.PhaseLate] < 50 || ends[api.PhaseSweep] < 50 || owned < 30 {
		t.Error(counts, ends, owned)
	}
}

// TestFinishOwned: mutators keep their spans until the phase is PhaseSweep, and keep those that they have in it when Finish is refused.
func TestFinishOwned(t *testing.T) {
	c := sample.Cache(sample.SixMarked(api.PhaseMark, 16, 18, 20), []int{0, 0, 0, 0}, []int{1, 0, 0, 0})
	c.Gc.Specials = nil
	c, n, why := cache.Finish(c)
	if n != 0 || why != api.OK || c.Gc.Phase != api.PhaseLate || c.Spans[1][0] != 1 {
		t.Error(n, why, c.Gc.Phase, c.Spans)
	}
	full := sample.CopyCache(c)
	full.Gc.Specials, full.Gc.Queue = []api.Special{sample.Cleanup(26, 2)}, slices.Repeat([]api.Item{sample.CleanItem(1)}, 256)
	if got, n, why := cache.Finish(full); !same(got, full) || n != 0 || why != api.ErrFull {
		t.Error("no room in the queue:", n, why)
	}
	if c, n, why = cache.Finish(c); n != 0 || why != api.OK || c.Gc.Phase != api.PhaseSweep || ownerOf(c, 1) != -1 {
		t.Error(n, why, c.Gc.Phase, c.Spans)
	}
	c = sample.Cache(sample.FourSizes(), []int{1, 2, 3, 4})
	if got, n, why := cache.Finish(c); !same(got, c) || n != 0 || why != api.ErrState {
		t.Error("in PhaseSweep:", n, why)
	}
}

func TestSweep(t *testing.T) {
	counts := map[api.Errno]int{}
	freed, owned := 0, 0
	for i, c := range append(caches(400), sample.Caches()...) {
		for more := true; more; {
			want, l, no := cleaned(c)
			got, addrs, why := cache.Sweep(c)
			if !same(got, want) || !slices.Equal(addrs, l) || why != no {
				t.Fatalf("Sweep of cache %d: %d, error %d; want %d, %d", i, addrs, why, l, no)
			}
			counts[no]++
			freed += len(l)
			more = no == api.OK && len(c.Gc.Marker.Heap.Spans) < 100
			if more && slices.ContainsFunc(slices.Concat(c.Spans...), func(first int) bool { return first > 0 }) {
				owned++
			}
			c = got
		}
	}
	if counts[api.OK] < 300 || counts[api.ErrState] < 300 || freed < 200 || owned < 100 {
		t.Error(counts, freed, owned)
	}
}

// TestChapter: the chapter's own examples, one after the other.
func TestChapter(t *testing.T) {
	g, why := reach.Make(4, 1)
	c, no := cache.Make(g, 2)
	if why != api.OK || no != api.OK {
		t.Fatal(why, no)
	}
	c = follow(t, c, place{0, 7, 16, []int{0, 0, 1, 0}}, place{1, 7, 32, []int{0, 0, 2, 0}}, place{0, 7, 24, []int{0, 0, 1, 0}}, place{1, 2, 48, []int{0, 3, 2, 0}})
	for _, n := range []int{7, 2} {
		if got, addr, why := cache.New(c, 0, api.Shape{N: n}); !same(got, c) || addr != 0 || why != api.ErrFull {
			t.Error("New:", n, addr, why)
		}
	}
	for i, want := range []int{0, 1, 1} {
		if who, why := cache.Owner(c, i+1); who != want || why != api.OK {
			t.Error("Owner:", i+1, who, why)
		}
	}
	if !slices.Equal(c.Hits, []uint64{1, 0}) || !slices.Equal(c.Misses, []uint64{1, 2}) {
		t.Error("hits and misses:", c.Hits, c.Misses)
	}
	c, why = cache.Flush(c, 1)
	if why != api.OK {
		t.Error("Flush:", why)
	}
	c = follow(t, c, place{0, 7, 40, []int{0, 0, 2, 0}})
	for _, x := range []struct {
		first, who int
		why        api.Errno
	}{{2, 0, api.OK}, {3, -1, api.OK}, {9, 0, api.ErrNone}} {
		if who, why := cache.Owner(c, x.first); who != x.who || why != x.why {
			t.Error("Owner:", x, who, why)
		}
	}
}

// TestTwoPages: the example of the whole chapter: of two mutators that allocate one object each, the objects are in two different pages, in each phase.
func TestTwoPages(t *testing.T) {
	for phase := range api.PhaseCount {
		g, _ := sample.BareGcs(phase)
		for _, n := range []int{0, 1, 2, 7, 15} {
			c := sample.Cache(g, sample.Nobody(2)...)
			c, first, why := cache.New(c, 1, api.Shape{N: n})
			_, second, no := cache.New(c, 0, api.Shape{N: n})
			if first != 16 || second != 32 || why != api.OK || no != api.OK {
				t.Error(phase, n, first, second, why, no)
			}
		}
	}
}
