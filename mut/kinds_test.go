package mut_test

import (
	"math"
	"slices"
	"testing"

	"besom/api"
	"besom/mut"
	"besom/sample"
	"besom/sched"
)

// What operations of each kind do: promise 19.2.

// edges are numbers at the edges of their type.
func edges() []uint64 {
	return []uint64{0, 1, 64, 65, math.MaxInt32, 1 << 32, 1<<32 + 1, math.MaxInt64, 1 << 63, 1<<63 + 1, math.MaxUint64}
}

// touching is in PhaseMark: mutator 0, which is not Scanned, refers to the white objects 26 and 20, and the latter to 18. A weak handle refers to 26, and 26 is also the value of 20.
func touching() api.Runtime {
	r := sample.BusyRuntime()
	r.Gc.Marker.Heap.Arena.Words[21] = 18
	r.Mutators[0].Regs[1] = sample.Num(3)
	return r
}

// TestTouch: what is touched is shaded with worker 0, in order, while the marker is On.
func TestTouch(t *testing.T) {
	for i, x := range []struct {
		op      api.Op
		touched []uint64
	}{
		{api.Op{Kind: api.OpLoad, A: 2, B: 3}, []uint64{18}},
		{api.Op{Kind: api.OpLoad, A: 3, B: 3}, []uint64{18}},
		{api.Op{Kind: api.OpLoad, A: 3, B: 0}, nil},
		{api.Op{Kind: api.OpStore, A: 3, B: 0}, []uint64{18, 26}},
		{api.Op{Kind: api.OpStore, A: 3, B: 2}, []uint64{18}},
		{api.Op{Kind: api.OpStore, A: 0, B: 0}, []uint64{26}},
		{api.Op{Kind: api.OpStore, A: 0, B: 2}, nil},
		{api.Op{Kind: api.OpMove, A: 2, B: 3}, nil},
		{api.Op{Kind: api.OpConst, A: 2, W: 26}, nil},
		{api.Op{Kind: api.OpNil, A: 3}, nil},
		{api.Op{Kind: api.OpWeak, A: 3, B: 3}, []uint64{20}},
		{api.Op{Kind: api.OpWeak, A: 2, B: 0}, []uint64{26}},
		{api.Op{Kind: api.OpUpgrade, A: 2, B: 1}, []uint64{26}},
		{api.Op{Kind: api.OpPut, A: 0, B: 3}, []uint64{26, 20}},
		{api.Op{Kind: api.OpPut, A: 3, B: 0}, []uint64{20, 26}},
		{api.Op{Kind: api.OpPut, A: 3, B: 3}, []uint64{20}},
		{api.Op{Kind: api.OpPut, A: 0, B: 2}, []uint64{26}},
		{api.Op{Kind: api.OpGet, A: 2, B: 3}, []uint64{26}},
		{api.Op{Kind: api.OpGet, A: 2, B: 0}, []uint64{20}},
		{api.Op{Kind: api.OpDel, A: 0}, nil},
		{api.Op{Kind: api.OpFinal, A: 0, W: 1}, []uint64{26}},
		{api.Op{Kind: api.OpClean, A: 3, W: 1}, []uint64{20}},
	} {
		r := touching()
		got, _, why := mut.Do(r, 0, x.op)
		if l := got.Gc.Marker.Grey.Queues; len(l) != 2 || !slices.Equal(l[0], append([]uint64{16}, x.touched...)) || len(l[1]) != 0 || why != api.OK {
			t.Errorf("operation %d, %v: queues %d, error %d", i, x.op, l, why)
		}
		marked := append([]uint64{16, 22, 24}, x.touched...)
		slices.Sort(marked)
		if l := sample.Marked(got.Gc.Marker.Heap); !slices.Equal(l, marked) {
			t.Errorf("operation %d, %v: marked %d, want %d", i, x.op, l, marked)
		}
		r.Gc.Phase, r.Gc.Marker = api.PhaseIdle, sample.Off(r.Gc.Marker.Heap, 2)
		for k := range r.Mutators {
			r.Mutators[k].Scanned = false
		}
		got, _, why = mut.Do(r, 0, x.op)
		if l := sample.Marked(got.Gc.Marker.Heap); got.Gc.Marker.On || !slices.Equal(l, []uint64{16, 22, 24}) || why != api.OK {
			t.Errorf("operation %d, %v in PhaseIdle: marked %d, error %d", i, x.op, l, why)
		}
	}
}

// TestNew: a new object is marked while the marker is On, and in no queue; its fields are 0.
func TestNew(t *testing.T) {
	for _, r := range []api.Runtime{sample.BusyRuntime(), sample.ThreeLists()} {
		for _, shape := range []api.Shape{{}, {N: 1, Mask: 1}, {N: 15}, {N: 16, Mask: 1 << 15}, {N: 20, Mask: 5}} {
			got, reg, why := mut.Do(r, 1, api.Op{Kind: api.OpNew, A: 3, Shape: shape})
			if !reg.Ref || reg.W == 0 || got.Mutators[1].Regs[3] != reg || why != api.OK {
				t.Error(shape, reg, why)
				continue
			}
			o := find(&got, reg.W)
			if o.N != shape.N || o.Mask != shape.Mask || slices.ContainsFunc(o.Fields, func(w uint64) bool { return w != 0 }) {
				t.Error(shape, o)
			}
			if slices.Contains(sample.Marked(got.Gc.Marker.Heap), reg.W) != r.Gc.Marker.On || !sample.SameGreys(got.Gc.Marker.Grey, r.Gc.Marker.Grey) {
				t.Error(shape, got.Gc.Marker.Grey)
			}
		}
	}
}

// TestNewForm: what is no shape is refused, also if there is no room.
func TestNewForm(t *testing.T) {
	for _, r := range []api.Runtime{sample.BusyRuntime(), crowded(api.Reg{})} {
		for _, shape := range []api.Shape{{N: -1}, {N: 49}, {N: math.MinInt}, {N: math.MaxInt}, {N: 1<<32 + 1}, {Mask: 1}, {N: 2, Mask: 4}, {N: 48, Mask: 1 << 48}, {N: 48, Mask: math.MaxUint64}} {
			if got, reg, why := mut.Do(r, 0, api.Op{Kind: api.OpNew, Shape: shape}); !same(got, r) || reg != (api.Reg{}) || why != api.ErrForm {
				t.Error(shape, reg, why)
			}
		}
	}
}

// crowded has no free page, and an object of 15 fields in each of its two pages, at 16 and 32, to which only these registers refer.
func crowded(regs ...api.Reg) api.Runtime {
	h := sample.Heap(3, []api.Span{sample.Span(1, 1, 16, 1, 0), sample.Span(2, 1, 16, 1, 0)}, sample.Object{Addr: 16, N: 15, Mask: 1}, sample.Object{Addr: 32, N: 15, Mask: 1})
	return sample.Runtime(sample.Gc(api.PhaseIdle, sample.Off(h, 1)), sample.Mutator(regs...), sample.Mutator())
}

// TestNewForced: without room a collection is forced, in any phase. What registers refer to is kept by it, and be it by the one that is to refer to the new object.
func TestNewForced(t *testing.T) {
	op := api.Op{Kind: api.OpNew, A: 0, Shape: api.Shape{N: 15, Mask: 2}}
	for steps := range 6 {
		for _, x := range []struct {
			regs []api.Reg
			addr uint64
		}{
			{nil, 16}, {[]api.Reg{sample.Ref(16)}, 32}, {[]api.Reg{sample.Ref(32)}, 16}, {[]api.Reg{sample.Num(16), sample.Num(32)}, 16},
			{[]api.Reg{sample.Ref(16), sample.Ref(32)}, 0}, {[]api.Reg{sample.Num(1), sample.Ref(16), sample.Ref(0), sample.Ref(32)}, 0},
		} {
			r := after(crowded(x.regs...), steps)
			got, reg, why := mut.Do(r, 0, op)
			if x.addr == 0 {
				if !same(got, r) || reg != (api.Reg{}) || why != api.ErrFull {
					t.Errorf("%v after %d steps: %v, error %d", x.regs, steps, reg, why)
				}
				continue
			}
			left := sample.Refs(r.Mutators[0])
			if l := sample.Addrs(got.Gc.Marker.Heap); reg != sample.Ref(x.addr) || why != api.OK || len(l) != len(left)+1 || !slices.Contains(l, x.addr) {
				t.Errorf("%v after %d steps: %v, error %d, %d exist", x.regs, steps, reg, why, l)
			}
		}
	}
}

// after executes so many steps of a collection, each of them the first that is possible.
func after(r api.Runtime, steps int) api.Runtime {
	for range steps {
		l, _ := sched.Tasks(r)
		r, _, _ = sched.Do(r, l[0])
	}
	return r
}

// TestNewFails: where a forced collection fails, there is no room either, though it would make some; once something was run, there is.
func TestNewFails(t *testing.T) {
	r := crowded(sample.Ref(16))
	r.Gc.Specials = []api.Special{sample.Cleanup(32, 1)}
	r.Gc.Queue = slices.Repeat([]api.Item{sample.CleanItem(2)}, 256)
	op := api.Op{Kind: api.OpNew, A: 1, Shape: api.Shape{N: 9}}
	for steps := range 3 {
		r := after(r, steps)
		if got, reg, why := mut.Do(r, 0, op); !same(got, r) || reg != (api.Reg{}) || why != api.ErrFull {
			t.Error(steps, reg, why)
		}
		r, _, _ = sched.Do(r, api.Task{Kind: api.TaskRun})
		got, reg, why := mut.Do(r, 0, op)
		if reg != sample.Ref(32) || why != api.OK || len(got.Gc.Queue) != 256 || got.Gc.Queue[255] != sample.CleanItem(1) {
			t.Error(steps, reg, why)
		}
	}
}

// TestNewSwept: as long as sweeping makes room, no collection is forced.
func TestNewSwept(t *testing.T) {
	r := sample.Runtime(sample.ThreeLarge(), sample.Mutator())
	got, reg, why := mut.Do(r, 0, api.Op{Kind: api.OpNew, A: 0, Shape: api.Shape{N: 3}})
	if reg != sample.Ref(16) || got.Gc.Phase != api.PhaseSweep || why != api.OK {
		t.Error(reg, got.Gc.Phase, why)
	}
	// Three pages more than there are at once: all spans are swept for them.
	got, reg, why = mut.Do(r, 0, api.Op{Kind: api.OpNew, A: 0, Shape: api.Shape{N: 48}})
	if reg != sample.Ref(16) || got.Gc.Phase != api.PhaseIdle || why != api.OK {
		t.Error(reg, got.Gc.Phase, why)
	}
}

// fields has an object at 16 in which numbers and references take turns, and registers that contain everything that there is.
func fields() api.Runtime {
	h := sample.Heap(3, []api.Span{sample.Span(1, 1, 8, 3, 0)},
		sample.Object{Addr: 16, N: 6, Mask: 0x2a, Fields: []uint64{24, 24, 0, 0, math.MaxUint64, 16}}, sample.Object{Addr: 24, N: 7, Mask: 0x7f})
	return sample.Runtime(sample.Gc(api.PhaseIdle, sample.Off(h, 1)), sample.Mutator(sample.Ref(16), sample.Num(24), sample.Ref(0), sample.Ref(24)))
}

func TestLoad(t *testing.T) {
	r := fields()
	for field, want := range []api.Reg{sample.Num(24), sample.Ref(24), sample.Num(0), sample.Ref(0), sample.Num(math.MaxUint64), sample.Ref(16)} {
		for a := range 4 {
			if got, reg, why := mut.Do(r, 0, api.Op{Kind: api.OpLoad, A: a, B: 0, Field: field}); reg != want || got.Mutators[0].Regs[a] != want || why != api.OK {
				t.Error(field, a, reg, why)
			}
		}
	}
	for _, field := range append(wrong(), 6, 7, 63, 64) {
		for b, want := range []api.Errno{api.ErrField, api.ErrType, api.ErrNil} {
			if field >= 0 && field < 6 {
				continue
			}
			if got, reg, why := mut.Do(r, 0, api.Op{Kind: api.OpLoad, A: 1, B: b, Field: field}); !same(got, r) || reg != (api.Reg{}) || why != want {
				t.Error(field, b, reg, why)
			}
		}
	}
}

// TestStore: the register in which the object is comes first, then the field, and then whether what is stored is of its kind.
func TestStore(t *testing.T) {
	r := fields()
	for field := -1; field < 7; field++ {
		for a := range 4 {
			for b := range 4 {
				op := api.Op{Kind: api.OpStore, A: a, B: b, Field: field}
				want, wanted, no := done(r, 0, op)
				if got, reg, why := mut.Do(r, 0, op); !same(got, want) || reg != wanted || why != no {
					t.Errorf("%v: %v, error %d; want %v, %d", op, reg, why, wanted, no)
				}
			}
		}
	}
	for _, x := range []struct {
		op   api.Op
		want api.Errno
	}{
		{api.Op{A: 1, B: 1, Field: -1}, api.ErrType}, {api.Op{A: 2, B: 1, Field: 6}, api.ErrNil}, {api.Op{A: 0, B: 0, Field: 6}, api.ErrField},
		{api.Op{A: 0, B: 1, Field: -1}, api.ErrField}, {api.Op{A: 0, B: 0, Field: 0}, api.ErrType}, {api.Op{A: 0, B: 2, Field: 0}, api.ErrType},
		{api.Op{A: 0, B: 1, Field: 1}, api.ErrType}, {api.Op{A: 0, B: 1, Field: 0}, api.OK}, {api.Op{A: 0, B: 2, Field: 1}, api.OK},
	} {
		x.op.Kind = api.OpStore
		if _, _, why := mut.Do(r, 0, x.op); why != x.want {
			t.Errorf("%v: error %d, want %d", x.op, why, x.want)
		}
	}
}

func TestMoveConstNil(t *testing.T) {
	r := fields()
	for a := range 4 {
		for b := range 4 {
			want := sample.CopyRuntime(r)
			want.Mutators[0].Regs[a] = r.Mutators[0].Regs[b]
			if got, reg, why := mut.Do(r, 0, api.Op{Kind: api.OpMove, A: a, B: b}); !same(got, want) || reg != r.Mutators[0].Regs[b] || why != api.OK {
				t.Error(a, b, reg, why)
			}
		}
		for _, w := range edges() {
			want := sample.CopyRuntime(r)
			want.Mutators[0].Regs[a] = sample.Num(w)
			if got, reg, why := mut.Do(r, 0, api.Op{Kind: api.OpConst, A: a, W: w}); !same(got, want) || reg != sample.Num(w) || why != api.OK {
				t.Error(a, w, reg, why)
			}
		}
		want := sample.CopyRuntime(r)
		want.Mutators[0].Regs[a] = sample.Ref(0)
		if got, reg, why := mut.Do(r, 0, api.Op{Kind: api.OpNil, A: a, W: 7}); !same(got, want) || reg != sample.Ref(0) || why != api.OK {
			t.Error(a, reg, why)
		}
	}
}

// TestWeak: an object has one handle only, and of new ones there are no more than 64.
func TestWeak(t *testing.T) {
	r := fields()
	for i, x := range []struct {
		b    int
		want uint64
	}{{0, 1}, {3, 2}, {0, 1}, {3, 2}} {
		got, reg, why := mut.Do(r, 0, api.Op{Kind: api.OpWeak, A: 1, B: x.b})
		if reg != sample.Num(x.want) || why != api.OK {
			t.Error(i, reg, why)
		}
		r = got
	}
	r.Gc.Weak = append(make([]uint64, 63), 16)
	if _, reg, why := mut.Do(r, 0, api.Op{Kind: api.OpWeak, A: 1, B: 0}); reg != sample.Num(64) || why != api.OK {
		t.Error(reg, why)
	}
	if got, reg, why := mut.Do(r, 0, api.Op{Kind: api.OpWeak, A: 1, B: 3}); !same(got, r) || reg != (api.Reg{}) || why != api.ErrFull {
		t.Error(reg, why)
	}
}

// TestUpgrade: numbers from 1 to that of the last handle have one, and no others, however great.
func TestUpgrade(t *testing.T) {
	for _, n := range []int{0, 1, 2, 63, 64} {
		r := fields()
		r.Gc.Weak = make([]uint64, n)
		for i, addr := range []uint64{24, 16} {
			if i < n {
				r.Gc.Weak[n-1-i] = addr
			}
		}
		for _, w := range slices.Concat(edges(), []uint64{2, 3, 62, 63, 1<<32 + 64, 1<<63 + 64, math.MaxUint64 - 63}) {
			r.Mutators[0].Regs[1] = sample.Num(w)
			got, reg, why := mut.Do(r, 0, api.Op{Kind: api.OpUpgrade, A: 2, B: 1})
			if w < 1 || w > uint64(n) {
				if !same(got, r) || reg != (api.Reg{}) || why != api.ErrNone {
					t.Errorf("%d of %d: %v, error %d", w, n, reg, why)
				}
				continue
			}
			if want := sample.Ref(r.Gc.Weak[w-1]); reg != want || got.Mutators[0].Regs[2] != want || why != api.OK {
				t.Errorf("%d of %d: %v, error %d", w, n, reg, why)
			}
		}
		for _, b := range []int{0, 2} {
			if got, reg, why := mut.Do(r, 0, api.Op{Kind: api.OpUpgrade, A: 2, B: b}); !same(got, r) || reg != (api.Reg{}) || why != api.ErrType {
				t.Error(n, b, reg, why)
			}
		}
	}
}

// many has as many objects of two words as there are slots in these pages, and a mutator that refers to the last two of them.
func many(pages int) api.Runtime {
	var l []api.Span
	var objects []sample.Object
	for page := 1; page <= pages; page++ {
		l = append(l, sample.Span(page, 1, 2, 0xff, 0))
		for slot := range 8 {
			objects = append(objects, sample.Object{Addr: uint64(16*page + 2*slot), N: 1, Mask: 1})
		}
	}
	last := objects[len(objects)-1].Addr
	g := sample.Gc(api.PhaseIdle, sample.Off(sample.Heap(pages+2, l, objects...), 2))
	return sample.Runtime(g, sample.Mutator(sample.Ref(last), sample.Ref(last-2), sample.Ref(0), sample.Num(1)))
}

// TestPutGetDel: what was put is got until it is deleted.
func TestPutGetDel(t *testing.T) {
	r := many(2)
	do := func(op api.Op, wanted api.Reg, want api.Errno) {
		t.Helper()
		got, reg, why := mut.Do(r, 0, op)
		if reg != wanted || why != want || want != api.OK && !same(got, r) {
			t.Errorf("%v: %v, error %d; want %v, %d", op, reg, why, wanted, want)
		}
		r = got
	}
	none := api.Reg{}
	first, second := r.Mutators[0].Regs[0], r.Mutators[0].Regs[1]
	do(api.Op{Kind: api.OpGet, A: 3, B: 0}, none, api.ErrNone)
	do(api.Op{Kind: api.OpDel, A: 0}, none, api.ErrNone)
	do(api.Op{Kind: api.OpPut, A: 0, B: 1}, first, api.OK)
	do(api.Op{Kind: api.OpPut, A: 1, B: 2}, second, api.OK)
	do(api.Op{Kind: api.OpGet, A: 3, B: 0}, second, api.OK)
	do(api.Op{Kind: api.OpGet, A: 3, B: 1}, sample.Ref(0), api.OK)
	do(api.Op{Kind: api.OpPut, A: 0, B: 0}, first, api.OK)
	do(api.Op{Kind: api.OpGet, A: 3, B: 0}, first, api.OK)
	do(api.Op{Kind: api.OpDel, A: 0}, first, api.OK)
	do(api.Op{Kind: api.OpDel, A: 0}, none, api.ErrNone)
	do(api.Op{Kind: api.OpGet, A: 3, B: 0}, none, api.ErrNone)
	do(api.Op{Kind: api.OpConst, A: 3, W: first.W}, sample.Num(first.W), api.OK)
	do(api.Op{Kind: api.OpPut, A: 3, B: 3}, none, api.ErrType)
	do(api.Op{Kind: api.OpPut, A: 2, B: 3}, none, api.ErrNil)
	do(api.Op{Kind: api.OpPut, A: 0, B: 3}, none, api.ErrType)
	do(api.Op{Kind: api.OpGet, A: 0, B: 3}, none, api.ErrType)
	do(api.Op{Kind: api.OpGet, A: 0, B: 2}, none, api.ErrNil)
	do(api.Op{Kind: api.OpDel, A: 3}, none, api.ErrType)
	do(api.Op{Kind: api.OpDel, A: 2}, none, api.ErrNil)
}

// TestPutFull: in a table that is full, a key that is there still has another value.
func TestPutFull(t *testing.T) {
	r := many(7)
	var pairs []uint64
	for _, addr := range sample.Addrs(r.Gc.Marker.Heap)[:48] {
		pairs = append(pairs, addr, 0)
	}
	r.Gc.Table = sample.Pairs(64, pairs...)
	if got, reg, why := mut.Do(r, 0, api.Op{Kind: api.OpPut, A: 0, B: 1}); !same(got, r) || reg != (api.Reg{}) || why != api.ErrFull {
		t.Error(reg, why)
	}
	r.Mutators[0].Regs[0] = sample.Ref(16)
	got, reg, why := mut.Do(r, 0, api.Op{Kind: api.OpPut, A: 0, B: 1})
	if reg != sample.Ref(16) || why != api.OK || !slices.Contains(got.Gc.Table.Slots, api.EphSlot{State: api.EphUsed, Key: 16, Val: r.Mutators[0].Regs[1].W}) {
		t.Error(reg, why)
	}
}

// TestFinalClean: whether there is room comes before that there is one already, and a list that is full after that.
func TestFinalClean(t *testing.T) {
	r := fields()
	for _, w := range edges() {
		for kind, want := range map[api.OpKind]api.Special{api.OpFinal: sample.Final(24, w), api.OpClean: sample.Cleanup(24, w)} {
			got, reg, why := mut.Do(r, 0, api.Op{Kind: kind, A: 3, W: w})
			if reg != sample.Ref(24) || !slices.Equal(got.Gc.Specials, []api.Special{want}) || why != api.OK {
				t.Error(kind, w, reg, got.Gc.Specials, why)
			}
		}
	}
	once := []api.Special{sample.Final(16, 1)}
	full := append(slices.Clone(once), slices.Repeat([]api.Special{sample.Cleanup(24, 1)}, 63)...)
	for i, x := range []struct {
		specials     []api.Special
		items        int
		a            int
		final, clean api.Errno
	}{
		{nil, 255, 0, api.OK, api.OK}, {nil, 256, 0, api.ErrFull, api.ErrFull}, {nil, 256, 1, api.ErrType, api.ErrType}, {nil, 256, 2, api.ErrNil, api.ErrNil},
		{once, 0, 0, api.ErrTwice, api.OK}, {once, 254, 0, api.ErrTwice, api.OK}, {once, 255, 0, api.ErrFull, api.ErrFull}, {once, 256, 0, api.ErrFull, api.ErrFull},
		{once, 254, 3, api.OK, api.OK}, {once, 255, 3, api.ErrFull, api.ErrFull},
		{full, 0, 0, api.ErrTwice, api.ErrFull}, {full, 0, 3, api.ErrFull, api.ErrFull}, {full[:63], 0, 3, api.OK, api.OK}, {full[:63], 192, 3, api.OK, api.OK},
		{full[:63], 193, 3, api.ErrFull, api.ErrFull}, {full, 256, 0, api.ErrFull, api.ErrFull},
	} {
		r.Gc.Specials, r.Gc.Queue = x.specials, slices.Repeat([]api.Item{sample.CleanItem(1)}, x.items)
		for kind, want := range map[api.OpKind]api.Errno{api.OpFinal: x.final, api.OpClean: x.clean} {
			got, reg, why := mut.Do(r, 0, api.Op{Kind: kind, A: x.a, W: 5})
			if why != want || want != api.OK && (!same(got, r) || reg != (api.Reg{})) || want == api.OK && len(got.Gc.Specials) != len(x.specials)+1 {
				t.Errorf("case %d, kind %d: %v, error %d, want %d", i, kind, reg, why, want)
			}
		}
	}
}

// TestGc: a collection begins in PhaseIdle only, and what waits is shaded.
func TestGc(t *testing.T) {
	r := sample.ThreeLists()
	r.Gc.Queue = []api.Item{sample.CleanItem(1), sample.FinalItem(20, 2)}
	got, reg, why := mut.Do(r, 1, api.Op{Kind: api.OpGc})
	if l := sample.Marked(got.Gc.Marker.Heap); reg != (api.Reg{}) || got.Gc.Phase != api.PhaseMark || !slices.Equal(l, []uint64{20}) || why != api.OK {
		t.Error(reg, got.Gc.Phase, l, why)
	}
	for _, r := range []api.Runtime{got, sample.BusyRuntime(), sample.Runtime(sample.ThreeLarge(), sample.Mutator())} {
		if got, reg, why := mut.Do(r, 0, api.Op{Kind: api.OpGc}); !same(got, r) || reg != (api.Reg{}) || why != api.ErrState {
			t.Error(r.Gc.Phase, reg, why)
		}
	}
}
