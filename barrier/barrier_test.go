package barrier_test

import (
	"math"
	"slices"
	"testing"

	"besom/api"
	"besom/barrier"
	"besom/heap"
	"besom/sample"
)

// 13.1

func TestMake(t *testing.T) {
	for i, h := range sample.Heaps() {
		for _, n := range sample.WorkerNumbers() {
			m, why := barrier.Make(h, n)
			if n < 1 || n > 4 {
				if !same(m, api.Marker{}) || why != api.ErrRange {
					t.Errorf("Make of heap %d for %d: error %d", i, n, why)
				}
				continue
			}
			if !same(m, sample.Off(h, n)) || why != api.OK || barrier.Check(m) != api.OK {
				t.Errorf("Make of heap %d for %d: error %d", i, n, why)
			}
		}
	}
	for i, h := range sample.BadHeaps() {
		for _, n := range []int{-1, 0, 1, 4, 5, math.MaxInt} {
			if m, why := barrier.Make(h, n); !same(m, api.Marker{}) || why != api.ErrForm {
				t.Errorf("Make of invalid heap %d for %d: error %d", i, n, why)
			}
		}
	}
}

func TestCheck(t *testing.T) {
	for i, m := range append(markers(300), sample.Markers()...) {
		if why := barrier.Check(m); why != api.OK {
			t.Errorf("marker %d: error %d", i, why)
		}
	}
	for i, m := range sample.BadMarkers() {
		if why := barrier.Check(m); why != api.ErrForm {
			t.Errorf("invalid marker %d: error %d", i, why)
		}
	}
}

// TestCheckChanged: of markers in which one thing was changed, those are valid that the chapter's words call so.
func TestCheckChanged(t *testing.T) {
	var good, bad int
	for i, m := range changed() {
		want := api.OK
		if !valid(m) {
			want = api.ErrForm
			bad++
		} else {
			good++
		}
		if why := barrier.Check(m); why != want {
			t.Errorf("marker %d: error %d, want %d", i, why, want)
		}
	}
	if good < 500 || bad < 500 {
		t.Error(good, bad)
	}
}

// changed are markers in which one thing is other than it was.
func changed() []api.Marker {
	var out []api.Marker
	p := sample.Picks(3)
	for _, m := range markers(150) {
		marked, all := sample.Marked(m.Heap), addrsOf(m)
		for range 6 {
			addr := all[p.Below(len(all))]
			worker := p.Below(len(m.Hands))
			more, less, queue, hand, field := sample.CopyMarker(m), sample.CopyMarker(m), sample.CopyMarker(m), sample.CopyMarker(m), sample.CopyMarker(m)
			if o := sample.Objects(m.Heap); len(o) > 0 {
				more.Heap = sample.Marks(m.Heap, append(slices.Clone(marked), o[p.Below(len(o))].Addr)...)
			}
			if len(marked) > 0 {
				less.Heap = sample.Marks(m.Heap, slices.Delete(slices.Clone(marked), 0, 1)...)
			}
			queue.Grey.Queues[worker] = append(queue.Grey.Queues[worker], addr)
			hand.Hands[worker] = api.Hand{Obj: addr, Field: p.Below(3)}
			field.Hands[worker].Field += p.Below(5) - 2
			out = append(out, more, less, queue, hand, field)
		}
		turned := sample.CopyMarker(m)
		turned.On = !m.On
		out = append(out, turned)
		for k := range m.Heap.Spans {
			old := sample.CopyMarker(m)
			old.Heap.Spans[k].Swept = false
			out = append(out, old)
		}
	}
	return out
}

func TestStart(t *testing.T) {
	var errors int
	for i, m := range append(markers(200), sample.Markers()...) {
		want, no := started(m)
		got, why := barrier.Start(m)
		if !same(got, want) || why != no {
			t.Errorf("Start of marker %d: error %d, want %d", i, why, no)
		}
		if no != api.OK {
			errors++
		}
	}
	if errors < 100 {
		t.Error(errors)
	}
}

func TestStop(t *testing.T) {
	var fine int
	for i, m := range append(markers(200), sample.Markers()...) {
		want, no := stopped(m)
		got, why := barrier.Stop(m)
		if !same(got, want) || why != no {
			t.Errorf("Stop of marker %d: error %d, want %d", i, why, no)
		}
		if no == api.OK {
			fine++
		}
	}
	if fine < 30 {
		t.Error(fine)
	}
}

// TestInvalidComesFirst: what is not valid comes before all other errors, and there is no result.
func TestInvalidComesFirst(t *testing.T) {
	for i, m := range sample.BadMarkers() {
		refused := func(name string, got api.Marker, n uint64, why api.Errno) {
			t.Helper()
			if !same(got, api.Marker{}) || n != 0 || why != api.ErrForm {
				t.Errorf("%s of invalid marker %d: %d, error %d", name, i, n, why)
			}
		}
		got, why := barrier.Start(m)
		refused("Start", got, 0, why)
		got, why = barrier.Stop(m)
		refused("Stop", got, 0, why)
		for _, worker := range []int{-1, 0, 1, math.MaxInt} {
			got, n, why := barrier.Shade(m, worker, 16, 17)
			refused("Shade", got, uint64(n), why)
			got, n, why = barrier.Shade(m, worker)
			refused("Shade of nothing", got, uint64(n), why)
			got, why = barrier.Write(m, worker, 16, 0, 18, true)
			refused("Write", got, 0, why)
			got, why = barrier.Write(m, worker, 0, -1, 17, false)
			refused("Write to nothing", got, 0, why)
		}
		for _, s := range []api.Shape{{}, {N: 3, Mask: 1}, {N: -1}} {
			got, addr, why := barrier.New(m, s)
			refused("New", got, addr, why)
		}
	}
}

// 13.2

func TestShade(t *testing.T) {
	p := sample.Picks(5)
	var grey, errors int
	for i, m := range markers(200) {
		all, objects := addrsOf(m), sample.Objects(m.Heap)
		for _, worker := range sample.WorkerNumbers() {
			var addrs []uint64
			for range p.Below(8) {
				if len(objects) > 0 && p.Below(10) > 0 {
					addrs = append(addrs, objects[p.Below(len(objects))].Addr)
				} else {
					addrs = append(addrs, all[p.Below(len(all))])
				}
			}
			want, many, no := shaded(m, worker, addrs)
			got, n, why := barrier.Shade(m, worker, addrs...)
			if !same(got, want) || n != many || why != no {
				t.Errorf("Shade of marker %d for %d, %d: %d, error %d; want %d, %d", i, worker, addrs, n, why, many, no)
			}
			grey += many
			if no != api.OK {
				errors++
			}
		}
	}
	if grey < 300 || errors < 300 {
		t.Error(grey, errors)
	}
}

// TestShadeMany: no list is too long, whether its objects are many or few; and where one object does not exist, none is shaded.
func TestShadeMany(t *testing.T) {
	m := sample.On(sample.FourLists(), make([]api.Hand, 2))
	long := slices.Concat(make([]uint64, 20000), slices.Repeat([]uint64{22, 0, 18}, 20000), []uint64{16})
	if got, n, why := barrier.Shade(m, 1, long...); !same(got, sample.On(sample.Marks(m.Heap, 16, 18, 22), make([]api.Hand, 2), nil, []uint64{22, 18, 16})) || n != 3 || why != api.OK {
		t.Error(got.Grey, n, why)
	}
	if got, n, why := barrier.Shade(m, 1, append(long, 24)...); !same(got, m) || n != 0 || why != api.ErrDead {
		t.Error(got.Grey, n, why)
	}
	all := sample.On(sample.Marks(sample.FullSpans()), make([]api.Hand, 4))
	addrs := sample.Objects(all.Heap)
	var most []uint64
	for _, o := range addrs[:300] {
		most = append(most, o.Addr)
	}
	want := sample.On(sample.Marks(all.Heap, most...), make([]api.Hand, 4), nil, nil, nil, most)
	if got, n, why := barrier.Shade(all, 3, most...); !same(got, want) || n != 300 || why != api.OK {
		t.Error(n, why)
	}
}

func TestWrite(t *testing.T) {
	p := sample.Picks(9)
	counts := map[api.Errno]int{}
	for i, m := range markers(250) {
		all, objects := addrsOf(m), sample.Objects(m.Heap)
		for k := range 20 {
			worker, addr, field := p.Below(len(m.Hands)), all[p.Below(len(all))], p.Below(6)-1
			w, ref := all[p.Below(len(all))], p.Below(2) == 0
			if len(objects) > 0 && k > 3 {
				o := objects[p.Below(len(objects))]
				addr, field, w = o.Addr, p.Below(o.N+1), objects[p.Below(len(objects))].Addr
				ref = o.Mask>>field&1 == 1
			}
			if k == 0 {
				l := sample.WorkerNumbers()
				worker = l[p.Below(len(l))]
			}
			want, no := written(m, worker, addr, field, w, ref)
			got, why := barrier.Write(m, worker, addr, field, w, ref)
			if !same(got, want) || why != no {
				t.Errorf("Write to marker %d: %d, %d, %d, %d, %v: error %d, want %d", i, worker, addr, field, w, ref, why, no)
			}
			counts[no]++
		}
	}
	for _, why := range []api.Errno{api.OK, api.ErrTask, api.ErrNil, api.ErrDead, api.ErrField, api.ErrType} {
		if counts[why] < 10 {
			t.Error("error", why, counts[why])
		}
	}
}

// TestWriteErrors: the errors in the order in which they come, whether the marker is On or not.
func TestWriteErrors(t *testing.T) {
	for _, m := range []api.Marker{busy(), sample.Off(busy().Heap, 3)} {
		for i, x := range []struct {
			worker int
			addr   uint64
			field  int
			w      uint64
			ref    bool
			want   api.Errno
		}{
			{3, 0, 9, 17, true, api.ErrTask},
			{-1, 16, 0, 20, true, api.ErrTask},
			{math.MaxInt, 16, 0, 20, true, api.ErrTask},
			{math.MinInt, 16, 0, 20, true, api.ErrTask},
			{2, 0, 9, 17, true, api.ErrNil},
			{2, 17, 9, 17, true, api.ErrDead},
			{2, math.MaxUint64, 9, 17, true, api.ErrDead},
			{2, 16, 3, 17, true, api.ErrField},
			{2, 16, -1, 17, true, api.ErrField},
			{2, 16, math.MaxInt, 17, true, api.ErrField},
			{2, 16, math.MinInt, 17, true, api.ErrField},
			{2, 16, 2, 17, true, api.ErrType},
			{2, 16, 0, 17, false, api.ErrType},
			{2, 16, 0, 17, true, api.ErrDead},
			{2, 16, 0, 32, true, api.ErrDead},
			{2, 16, 0, 1<<32 + 16, true, api.ErrDead},
			{2, 16, 0, math.MaxUint64, true, api.ErrDead},
		} {
			if got, why := barrier.Write(m, x.worker, x.addr, x.field, x.w, x.ref); !same(got, m) || why != x.want {
				t.Errorf("Write %d: error %d, want %d", i, why, x.want)
			}
		}
	}
}

// TestWriteShades: a store shades what the field referred to, and then what it refers to, each once and if they were white; a number shades nothing, nor does a marker that is not On.
func TestWriteShades(t *testing.T) {
	lists := sample.FourLists()
	on := func(marked []uint64, queues ...[]uint64) api.Marker {
		return sample.On(sample.Marks(lists, marked...), make([]api.Hand, 2), queues...)
	}
	for i, x := range []struct {
		m           api.Marker
		addr, w     uint64
		want        []uint64
		queue       []uint64
		otherQueues []uint64
	}{
		{on(nil), 16, 20, []uint64{18, 20}, []uint64{18, 20}, nil},
		{on(nil), 16, 18, []uint64{18}, []uint64{18}, nil},
		{on(nil), 16, 16, []uint64{16, 18}, []uint64{18, 16}, nil},
		{on(nil), 16, 0, []uint64{18}, []uint64{18}, nil},
		{on(nil), 18, 20, []uint64{20}, []uint64{20}, nil},
		{on(nil), 18, 0, nil, nil, nil},
		{on([]uint64{16, 18}), 16, 20, []uint64{16, 18, 20}, []uint64{20}, nil},
		{on([]uint64{18}), 16, 20, []uint64{18, 20}, []uint64{20}, nil},
		{on([]uint64{20}), 16, 20, []uint64{18, 20}, []uint64{18}, nil},
		{on([]uint64{16, 20}, []uint64{16, 20}), 16, 20, []uint64{16, 18, 20}, []uint64{18}, []uint64{16, 20}},
		{on([]uint64{22}, []uint64{22}), 22, 22, []uint64{22}, nil, []uint64{22}},
	} {
		want := on(x.want, x.otherQueues, x.queue)
		want.Heap.Arena.Words[x.addr+1] = x.w
		if got, why := barrier.Write(x.m, 1, x.addr, 0, x.w, true); !same(got, want) || why != api.OK {
			t.Errorf("Write %d: %v, error %d", i, got.Grey, why)
		}
	}
	numbers := busy()
	want := sample.CopyMarker(numbers)
	want.Heap.Arena.Words[19] = 38
	if got, why := barrier.Write(numbers, 0, 16, 2, 38, false); !same(got, want) || why != api.OK {
		t.Error("Write of a number:", got.Grey, why)
	}
	off := sample.Off(lists, 2)
	got, why := barrier.Write(off, 0, 16, 0, 20, true)
	off.Heap.Arena.Words[17] = 20
	if !same(got, off) || why != api.OK {
		t.Error("Write, not On:", got.Grey, why)
	}
}

func TestNew(t *testing.T) {
	shapes := []api.Shape{{}, {N: 1, Mask: 1}, {N: 3}, {N: 7, Mask: 65}, {N: 15}, {N: 17, Mask: 1 << 16}, {N: 48, Mask: 1<<48 - 1},
		{N: -1}, {N: 49}, {N: 2, Mask: 4}, {N: math.MinInt}, {N: math.MaxInt}, {N: 48, Mask: 1 << 48}}
	counts := map[api.Errno]int{}
	for i, m := range append(markers(100), sample.Markers()...) {
		for _, s := range shapes {
			want, at, no := made(m, s)
			got, addr, why := barrier.New(m, s)
			if !same(got, want) || addr != at || why != no {
				t.Errorf("New of marker %d, %v: %d, error %d; want %d, %d", i, s, addr, why, at, no)
			}
			counts[no]++
			if why != api.OK {
				continue
			}
			if on, why := heap.Marked(got.Heap, addr); on != m.On || why != api.OK {
				t.Errorf("New of marker %d, %v: marked %v, error %d", i, s, on, why)
			}
		}
	}
	if counts[api.OK] < 100 || counts[api.ErrForm] < 100 || counts[api.ErrFull] < 10 {
		t.Error(counts)
	}
}

// TestChapter: the chapter's own examples, one after the other.
func TestChapter(t *testing.T) {
	h, _ := heap.Make(4)
	m, why := barrier.Make(h, 2)
	var l [4]uint64
	for i := range l {
		var no api.Errno
		m, l[i], no = barrier.New(m, api.Shape{N: 1, Mask: 1})
		why = max(why, no)
	}
	m, no := barrier.Write(m, 0, l[0], 0, l[1], true)
	if !same(m, sample.Off(sample.FourLists(), 2)) || why != api.OK || no != api.OK {
		t.Fatal(m, why, no)
	}
	if got, n, why := barrier.Shade(m, 0, l[0]); !same(got, m) || n != 0 || why != api.ErrState {
		t.Error("Shade before Start:", n, why)
	}
	m, why = barrier.Start(m)
	if again, no := barrier.Start(m); !same(again, m) || no != api.ErrState || why != api.OK {
		t.Error("Start:", why, no)
	}
	m, n, why := barrier.Shade(m, 0, l[0], l[0], 0)
	if !same(m, chapter()) || n != 1 || why != api.OK {
		t.Error("Shade:", m.Grey, n, why)
	}
	if got, why := barrier.Stop(m); !same(got, m) || why != api.ErrState {
		t.Error("Stop:", why)
	}
	if got, why := barrier.Write(m, 2, l[0], 0, l[2], true); !same(got, m) || why != api.ErrTask {
		t.Error("Write for worker 2:", why)
	}
	got, why := barrier.Write(m, 1, l[0], 0, l[2], true)
	want := sample.On(sample.Marks(m.Heap, l[:3]...), make([]api.Hand, 2), l[:1], l[1:3])
	want.Heap.Arena.Words[17] = l[2]
	if !same(got, want) || why != api.OK {
		t.Error("Write:", got.Grey, why)
	}
	m, addr, why := barrier.New(got, api.Shape{})
	if on, no := heap.Marked(m.Heap, addr); !on || !sample.SameGreys(m.Grey, got.Grey) || why != api.OK || no != api.OK {
		t.Error("New:", m.Grey, on, why, no)
	}
	bad := sample.On(sample.Marks(sample.FourLists(), l[0]), make([]api.Hand, 2))
	bad.Heap.Arena.Words[17] = l[3]
	if why := barrier.Check(bad); why != api.ErrForm {
		t.Error("Check:", why)
	}
}

// TestBlackAndWhite: the example of the whole chapter: storing b into a shades b.
func TestBlackAndWhite(t *testing.T) {
	m := sample.On(sample.Marks(sample.FourLists(), 18), make([]api.Hand, 1))
	want := sample.On(sample.Marks(m.Heap, 18, 22), make([]api.Hand, 1), []uint64{22})
	want.Heap.Arena.Words[19] = 22
	if got, why := barrier.Write(m, 0, 18, 0, 22, true); !same(got, want) || why != api.OK {
		t.Error(got.Grey, why)
	}
}
