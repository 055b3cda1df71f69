package scav_test

import (
	"math"
	"slices"
	"testing"

	"besom/api"
	"besom/heap"
	"besom/sample"
	"besom/scav"
)

// TestSamplesAreValid: what the tests try is valid, and has pages of each kind.
func TestSamplesAreValid(t *testing.T) {
	used, present, out, several := 0, 0, 0, 0
	for i, s := range scavs(300) {
		if why := heap.Check(s.Heap); why != api.OK || !valid(s) {
			t.Fatalf("value %d: error %d", i, why)
		}
		n, free := there(s)
		used, present, out = used+n-free, present+free, out+s.Out.N-n
		if len(lengths(s)) > 1 {
			several++
		}
	}
	if used < 500 || present < 300 || out < 300 || several < 100 {
		t.Error(used, present, out, several)
	}
}

// TestInvalidComesFirst: what is not valid comes before all other errors, and there is no result.
func TestInvalidComesFirst(t *testing.T) {
	for i, s := range sample.BadScavs() {
		for _, shape := range []api.Shape{{}, {N: 15}, {N: 48}, {N: 49}} {
			if got, addr, why := scav.New(s, shape, i%2 == 0); !same(got, api.Scav{}) || addr != 0 || why != api.ErrForm {
				t.Errorf("New in invalid value %d: %d, error %d", i, addr, why)
			}
		}
		for _, n := range []int{-1, 0, 1, 2, 9, math.MinInt, math.MaxInt} {
			if got, freed, why := scav.Clean(s, n); !same(got, api.Scav{}) || len(freed) != 0 || why != api.ErrForm {
				t.Errorf("Clean in invalid value %d: %d, error %d", i, freed, why)
			}
			if got, gone, why := scav.Release(s, n); !same(got, api.Scav{}) || gone != 0 || why != api.ErrForm {
				t.Errorf("Release of invalid value %d: %d, error %d", i, gone, why)
			}
			if got, gone, why := scav.Keep(s, n); !same(got, api.Scav{}) || gone != 0 || why != api.ErrForm {
				t.Errorf("Keep of invalid value %d: %d, error %d", i, gone, why)
			}
		}
		if present, free, why := scav.There(s); present != 0 || free != 0 || why != api.ErrForm {
			t.Errorf("There of invalid value %d: %d, %d, error %d", i, present, free, why)
		}
		if l, why := scav.Runs(s); len(l) != 0 || why != api.ErrForm {
			t.Errorf("Runs of invalid value %d: %d, error %d", i, l, why)
		}
	}
}

// 23.1

func TestCheck(t *testing.T) {
	for i, s := range append(scavs(200), sample.Scavs()...) {
		if why := scav.Check(s); why != api.OK {
			t.Errorf("Check of value %d: error %d", i, why)
		}
	}
	for i, s := range sample.BadScavs() {
		if why := scav.Check(s); why != api.ErrForm {
			t.Errorf("Check of invalid value %d: error %d", i, why)
		}
	}
}

// TestCheckOut: a page may be Out if and only if it is free, whatever the other ones are.
func TestCheckOut(t *testing.T) {
	counts := map[bool]int{}
	for i, start := range scavs(60) {
		for page := range start.Out.N {
			s := sample.CopyScav(start)
			s.Out.W[page/64] ^= 1 << (page % 64)
			ok := !listOf(s.Heap.Pages.Used)[page]
			counts[ok]++
			if why := scav.Check(s); why != api.OK && why != api.ErrForm || (why == api.OK) != ok || valid(s) != ok {
				t.Errorf("page %d of value %d: error %d", page, i, why)
			}
		}
	}
	if counts[true] < 200 || counts[false] < 200 {
		t.Error(counts)
	}
}

// TestCheckLengths: there is one bit for each page, no more and no fewer.
func TestCheckLengths(t *testing.T) {
	for _, pages := range []int{1, 6, 63, 64, 65, 128, 1023, 1024} {
		h, _ := heap.Make(pages)
		for _, n := range []int{0, 1, 5, 6, 7, 62, 63, 64, 65, 66, 127, 128, 129, 1022, 1023, 1024, 1025, 4096} {
			s := api.Scav{Heap: h, Out: sample.Pack(make([]bool, n))}
			if why := scav.Check(s); (why == api.OK) != (n == pages) || why != api.OK && why != api.ErrForm {
				t.Error(pages, n, why)
			}
		}
	}
}

// TestCounts: what was counted may be any numbers.
func TestCounts(t *testing.T) {
	s := sample.Scav(sample.ThreeObjects(), 5)
	for _, n := range []uint64{0, 1, 1 << 32, 1 << 40, 1<<40 + 1, 1 << 63, math.MaxUint64} {
		for _, m := range []uint64{0, 1, math.MaxUint64} {
			s.Faults, s.Gone = n, m
			if why := scav.Check(s); why != api.OK {
				t.Error(n, m, why)
			}
			s.Faults, s.Gone = m, n
			if why := scav.Check(s); why != api.OK {
				t.Error(m, n, why)
			}
		}
	}
}

func TestMake(t *testing.T) {
	for i, h := range sample.Heaps() {
		if got, why := scav.Make(h); !same(got, sample.Scav(h)) || why != api.OK {
			t.Errorf("Make of heap %d: error %d", i, why)
		}
	}
	for i, h := range sample.BadHeaps() {
		if got, why := scav.Make(h); !same(got, api.Scav{}) || why != api.ErrForm {
			t.Errorf("Make of invalid heap %d: error %d", i, why)
		}
	}
}

func TestThere(t *testing.T) {
	for i, s := range append(scavs(200), sample.Scavs()...) {
		present, free := there(s)
		if n, m, why := scav.There(s); n != present || m != free || why != api.OK {
			t.Errorf("There of value %d: %d, %d, error %d; want %d, %d", i, n, m, why, present, free)
		}
	}
}

// 23.2

func TestNew(t *testing.T) {
	p := sample.Picks(233)
	whys, faults := map[api.Errno]int{}, map[uint64]int{}
	for i, s := range append(scavs(150), sample.Scavs()...) {
		l := shapes()
		for range 12 {
			shape, black := l[p.Below(len(l))], p.Below(2) == 0
			want, at, no := added(s, shape, black)
			got, addr, why := scav.New(s, shape, black)
			if !same(got, want) || addr != at || why != no {
				t.Fatalf("New in value %d, %v: %d, error %d; want %d, %d", i, shape, addr, why, at, no)
			}
			whys[no]++
			faults[got.Faults-s.Faults]++
			s = got
		}
	}
	for _, why := range []api.Errno{api.OK, api.ErrForm, api.ErrFull} {
		if whys[why] < 200 {
			t.Error(whys)
		}
	}
	for n := range uint64(5) {
		if faults[n] < 10 {
			t.Error(faults)
		}
	}
}

// TestNewFaults: of the pages that an object occupies, those that were Out come back, and only they are counted.
func TestNewFaults(t *testing.T) {
	h := sample.Heap(8, []api.Span{sample.Span(3, 1, 4, 1, 0)}, sample.Object{Addr: 48, N: 3})
	for _, x := range []struct {
		out    []int
		n      int
		addr   uint64
		faults uint64
		left   []int
	}{
		{[]int{1, 2, 4, 5, 6, 7}, 3, 52, 0, []int{1, 2, 4, 5, 6, 7}}, {[]int{1, 2, 4, 5, 6, 7}, 7, 16, 1, []int{2, 4, 5, 6, 7}},
		{[]int{1, 2, 4, 5, 6, 7}, 16, 16, 2, []int{4, 5, 6, 7}}, {[]int{2, 7}, 31, 16, 1, []int{7}}, {[]int{4, 7}, 20, 16, 0, []int{4, 7}},
		{[]int{1, 2, 4, 5, 6, 7}, 32, 64, 3, []int{1, 2, 7}}, {[]int{1, 2, 4, 5, 6, 7}, 48, 64, 4, []int{1, 2}}, {[]int{1, 5, 7}, 48, 64, 2, []int{1}}, {nil, 48, 64, 0, nil},
	} {
		for _, start := range []uint64{0, 5, math.MaxUint64 - 4, math.MaxUint64} {
			s := sample.Scav(h, x.out...)
			s.Faults, s.Gone = start, start/2
			got, addr, why := scav.New(s, api.Shape{N: x.n}, false)
			if addr != x.addr || got.Faults != start+x.faults || got.Gone != start/2 || !sample.SameBits(got.Out, sample.Scav(h, x.left...).Out) || why != api.OK {
				t.Errorf("New of %d fields, out %d: %d, error %d, %d faults, out %b", x.n, x.out, addr, why, got.Faults-start, got.Out.W)
			}
		}
	}
}

// TestNewErrors: the shape comes before the room, and nothing changes, though there are pages that are Out.
func TestNewErrors(t *testing.T) {
	h := sample.Heap(8, []api.Span{sample.Span(3, 1, 4, 15, 0), sample.Span(5, 1, 16, 1, 0)}, sample.Object{Addr: 80, N: 9})
	for slot := range uint64(4) {
		h.Arena.Words[48+4*slot] = sample.Header(2, 0)
	}
	for _, out := range [][]int{nil, {7}, {1, 2, 4, 6, 7}} {
		s := sample.Scav(h, out...)
		s.Faults = 3
		for _, x := range []struct {
			shape api.Shape
			want  api.Errno
		}{
			{api.Shape{N: 49}, api.ErrForm}, {api.Shape{N: -1}, api.ErrForm}, {api.Shape{N: 2, Mask: 4}, api.ErrForm}, {api.Shape{N: math.MaxInt}, api.ErrForm},
			{api.Shape{N: 48, Mask: math.MaxUint64}, api.ErrForm}, {api.Shape{N: 32}, api.ErrFull}, {api.Shape{N: 48}, api.ErrFull},
		} {
			for _, black := range []bool{false, true} {
				if got, addr, why := scav.New(s, x.shape, black); !same(got, s) || addr != 0 || why != x.want {
					t.Errorf("New of %v: %d, error %d", x.shape, addr, why)
				}
			}
		}
	}
	full := sample.Scav(sample.FullSpans(), sample.Free(sample.FullSpans())...)
	if got, addr, why := scav.New(full, api.Shape{N: 9}, true); !same(got, full) || addr != 0 || why != api.ErrFull {
		t.Error("as many spans as there may be:", addr, why)
	}
}

func TestClean(t *testing.T) {
	whys, freed, spans := map[api.Errno]int{}, 0, 0
	for i, s := range append(scavs(200), turned(sample.Scavs())...) {
		for _, first := range pageNumbers() {
			want, l, no := cleaned(s, first)
			got, addrs, why := scav.Clean(s, first)
			if !same(got, want) || !slices.Equal(addrs, l) || why != no {
				t.Fatalf("Clean of value %d, %d: %d, error %d; want %d, %d", i, first, addrs, why, l, no)
			}
			whys[no]++
			freed += len(l)
			if len(got.Heap.Spans) < len(s.Heap.Spans) {
				spans++
			}
			s = got
		}
	}
	if whys[api.OK] < 300 || whys[api.ErrNone] < 300 || whys[api.ErrState] < 300 || freed < 300 || spans < 100 {
		t.Error(whys, freed, spans)
	}
}

// TestCleanPresent: pages that become free are present, and what is Out stays Out.
func TestCleanPresent(t *testing.T) {
	h, why := heap.Turn(sample.ThreeObjects())
	if why != api.OK {
		t.Fatal(why)
	}
	s := sample.Scav(h, 4)
	got, freed, why := scav.Clean(s, 2)
	if want := sample.Scav(got.Heap, 4); !same(got, want) || !slices.Equal(freed, []uint64{32}) || why != api.OK {
		t.Error(got.Out, freed, why)
	}
	if present, free, _ := scav.There(got); present != 5 || free != 3 {
		t.Error(present, free)
	}
	for _, first := range []int{2, 3, 4, 0, -1, 6, math.MaxInt} {
		if again, freed, why := scav.Clean(got, first); !same(again, got) || len(freed) != 0 || why != api.ErrNone {
			t.Error(first, freed, why)
		}
	}
	swept := sample.Scav(sample.ThreeObjects(), 4)
	if again, freed, why := scav.Clean(swept, 1); !same(again, swept) || len(freed) != 0 || why != api.ErrState {
		t.Error(freed, why)
	}
}

// 23.3

func TestRelease(t *testing.T) {
	counts, all, some := map[api.Errno]int{}, 0, 0
	for i, s := range append(scavs(200), sample.Scavs()...) {
		_, free := there(s)
		for _, n := range append(pageNumbers(), free-1, free, free+1, math.MinInt+free) {
			want, number, no := released(s, n)
			got, gone, why := scav.Release(s, n)
			if !same(got, want) || gone != number || why != no {
				t.Errorf("Release of value %d, %d: %d, error %d; want %d, %d", i, n, gone, why, number, no)
			}
			counts[no]++
			if no == api.OK && number < n {
				all++
			} else if no == api.OK && number < free {
				some++
			}
		}
	}
	if counts[api.OK] < 1000 || counts[api.ErrRange] < 1000 || all < 500 || some < 500 {
		t.Error(counts, all, some)
	}
}

// TestReleaseLast: it is the last pages that go, in however many calls, and what is in use or Out is passed over.
func TestReleaseLast(t *testing.T) {
	h := sample.Heap(10, []api.Span{sample.Span(2, 1, 4, 1, 0), sample.Span(6, 1, 4, 1, 0)}, sample.Object{Addr: 32, N: 3}, sample.Object{Addr: 96, N: 3})
	for _, x := range []struct {
		out  []int
		n    int
		gone int
		then []int
	}{
		{nil, 0, 0, nil}, {nil, 1, 1, []int{9}}, {nil, 4, 4, []int{5, 7, 8, 9}}, {nil, 7, 7, []int{1, 3, 4, 5, 7, 8, 9}}, {nil, 8, 7, []int{1, 3, 4, 5, 7, 8, 9}},
		{[]int{9}, 1, 1, []int{8, 9}}, {[]int{3, 8}, 3, 3, []int{3, 5, 7, 8, 9}}, {[]int{1, 3, 4, 5, 7, 8, 9}, 5, 0, []int{1, 3, 4, 5, 7, 8, 9}}, {[]int{1, 4}, math.MaxInt, 5, []int{1, 3, 4, 5, 7, 8, 9}},
	} {
		s := sample.Scav(h, x.out...)
		want := sample.Scav(h, x.then...)
		if got, gone, why := scav.Release(s, x.n); !same(got, want) || gone != x.gone || why != api.OK {
			t.Errorf("Release of %d, out %d: %d, error %d, out %b", x.n, x.out, gone, why, got.Out.W)
		}
	}
}

// TestReleaseWraps: what was counted goes on at 0, when it is as great as a number may be.
func TestReleaseWraps(t *testing.T) {
	s := sample.Scav(sample.ThreeObjects())
	s.Gone, s.Faults = math.MaxUint64, math.MaxUint64
	s, gone, why := scav.Release(s, 2)
	if s.Gone != 1 || s.Faults != math.MaxUint64 || gone != 2 || why != api.OK {
		t.Error(s, gone, why)
	}
	s, addr, why := scav.New(s, api.Shape{N: 9}, false)
	if s.Gone != 1 || s.Faults != 0 || addr != 64 || why != api.OK {
		t.Error(s, addr, why)
	}
}

func TestKeep(t *testing.T) {
	counts, none, all, some := map[api.Errno]int{}, 0, 0, 0
	for i, s := range append(scavs(200), sample.Scavs()...) {
		present, free := there(s)
		for _, most := range append(pageNumbers(), present-1, present, present+1, present-free, present-free+1, math.MinInt+present, math.MaxInt-present) {
			want, number, no := kept(s, most)
			got, gone, why := scav.Keep(s, most)
			if !same(got, want) || gone != number || why != no {
				t.Errorf("Keep of value %d, %d: %d, error %d; want %d, %d", i, most, gone, why, number, no)
			}
			counts[no]++
			switch {
			case no != api.OK:
			case present <= most:
				none++
			case number == free:
				all++
			default:
				some++
			}
		}
	}
	if counts[api.OK] < 1000 || counts[api.ErrRange] < 1000 || none < 500 || all < 500 || some < 100 {
		t.Error(counts, none, all, some)
	}
}

// TestKeepLeaves: behind Keep, no more pages are present than most, but those in use.
func TestKeepLeaves(t *testing.T) {
	for i, s := range scavs(200) {
		before, free := there(s)
		for most := range s.Out.N + 2 {
			got, gone, why := scav.Keep(s, most)
			after, left := there(got)
			if after != max(before-free, min(before, most)) || before-after != gone || free-left != gone || got.Gone != s.Gone+uint64(gone) || why != api.OK {
				t.Fatalf("Keep of value %d, %d: %d, error %d; %d of %d are present", i, most, gone, why, after, before)
			}
		}
	}
}

func TestRuns(t *testing.T) {
	different := 0
	for i, s := range append(scavs(200), sample.SmallScavs()...) {
		want := lengths(s)
		l, why := scav.Runs(s)
		if !slices.Equal(l, want) || why != api.OK {
			t.Errorf("Runs of value %d: %d, error %d; want %d", i, l, why, want)
		}
		if len(l) > 1 && l[0] > l[len(l)-1] {
			different++
		}
	}
	if different < 50 {
		t.Error(different)
	}
}

// TestRunsEdges: runs at the ends and of all lengths, whether or not their pages are present.
func TestRunsEdges(t *testing.T) {
	for _, x := range []struct {
		pages int
		used  []int
		want  []int
	}{
		{1, nil, nil}, {2, nil, []int{1}}, {2, []int{1}, nil}, {4, []int{2}, []int{1, 1}}, {4, []int{1}, []int{2}}, {4, []int{3}, []int{2}},
		{12, []int{2, 6, 7, 9}, []int{3, 2, 1, 1}}, {12, []int{1, 4, 11}, []int{6, 2}}, {70, []int{63, 64}, []int{62, 5}}, {70, []int{64}, []int{63, 5}},
		{129, []int{1, 3, 128}, []int{124, 1}}, {1024, nil, []int{1023}}, {1024, []int{1023}, []int{1022}}, {1024, []int{1, 512}, []int{511, 510}},
	} {
		var l []api.Span
		for _, page := range x.used {
			l = append(l, sample.Span(page, 1, 4, 0, 0))
		}
		h := sample.Heap(x.pages, l)
		for _, out := range [][]int{nil, sample.Free(h)} {
			if got, why := scav.Runs(sample.Scav(h, out...)); !slices.Equal(got, x.want) || why != api.OK {
				t.Errorf("Runs of %d pages, %d: %d, error %d", x.pages, x.used, got, why)
			}
		}
	}
	if got, why := scav.Runs(sample.Scav(sample.FullPages())); len(got) != 0 || why != api.OK {
		t.Error("all pages are in use:", got, why)
	}
	if got, why := scav.Runs(sample.Scav(sample.FullSpans(), 299)); !slices.Equal(got, []int{43}) || why != api.OK {
		t.Error("as many spans as there may be:", got, why)
	}
}

// TestChapter: the chapter's own examples, one after the other.
func TestChapter(t *testing.T) {
	h, _ := heap.Make(8)
	h, _, _ = heap.New(h, api.Shape{N: 15}, false)
	h, _, _ = heap.New(h, api.Shape{N: 40}, false)
	s, why := scav.Make(h)
	if why != api.OK || s.Faults != 0 || s.Gone != 0 {
		t.Fatal("Make:", why)
	}
	s, first, why := scav.Release(s, 1)
	s, second, no := scav.Release(s, 9)
	if first != 1 || second != 2 || why != api.OK || no != api.OK {
		t.Error("Release:", first, second, why, no)
	}
	if present, free, why := scav.There(s); present != 5 || free != 0 || why != api.OK {
		t.Error("There:", present, free, why)
	}
	s, addr, why := scav.New(s, api.Shape{N: 15}, false)
	if addr != 80 || s.Faults != 1 || s.Gone != 3 || why != api.OK {
		t.Error("New:", addr, s.Faults, s.Gone, why)
	}
	if l, why := scav.Runs(s); !slices.Equal(l, []int{2}) || why != api.OK {
		t.Error("Runs:", l, why)
	}
	s.Heap, _ = heap.Turn(s.Heap)
	s, freed, why := scav.Clean(s, 2)
	if len(freed) != 1 || why != api.OK {
		t.Error("Clean:", freed, why)
	}
	if l, why := scav.Runs(s); len(l) != 2 || l[0] != 3 || why != api.OK {
		t.Error("Runs:", l, why)
	}
	if got, gone, why := scav.Keep(s, 9); !same(got, s) || gone != 0 || why != api.OK {
		t.Error("Keep:", gone, why)
	}
	s, gone, why := scav.Keep(s, 4)
	if gone != 2 || s.Gone != 5 || why != api.OK {
		t.Error("Keep:", gone, s.Gone, why)
	}
	zero := sample.Scav(h, 0)
	if why := scav.Check(zero); why != api.ErrForm {
		t.Error("Check with page 0 Out:", why)
	}
}

// TestFourPages: the example of the whole chapter: of four pages, one is used by an object.
func TestFourPages(t *testing.T) {
	h, _ := heap.Make(4)
	h, _, _ = heap.New(h, api.Shape{N: 1}, false)
	s, _ := scav.Make(h)
	s, gone, why := scav.Release(s, 9)
	if gone != 2 || why != api.OK {
		t.Error("Release:", gone, why)
	}
	s, addr, why := scav.New(s, api.Shape{N: 19}, false)
	if present, free, no := scav.There(s); addr != 32 || s.Faults != 2 || present != 4 || free != 0 || why != api.OK || no != api.OK {
		t.Error("New:", addr, s.Faults, present, free, why, no)
	}
}
