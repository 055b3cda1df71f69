package mut_test

import (
	"math"
	"slices"
	"testing"

	"besom/api"
	"besom/mut"
	"besom/sample"
	"besom/sched"
)

// runtimes are valid runtimes in all phases, with small heaps.
func runtimes(n int) []api.Runtime {
	out := append(sample.SmallRuntimes(), sample.BusyRuntime())
	p := sample.Picks(131)
	for i := range n {
		r := sample.SomeRuntime(&p, i%10, 1+i%4, 1+i/4%4)
		// There are few of these otherwise.
		for i%5 == 0 && r.Gc.Phase != api.PhaseIdle {
			r = sample.SomeRuntime(&p, i%10, 1+i%4, 1+i/4%4)
		}
		// The number in a register may be that of a handle.
		r.Mutators[0].Regs[p.Below(4)] = sample.Num(uint64(p.Below(6)))
		out = append(out, r)
	}
	return out
}

// wrong are numbers of no register, and of no mutator.
func wrong() []int {
	return append(sample.Ints(), -2, 4, 5, 255, 1<<32+1)
}

// TestSamplesAreValid: what the tests try is valid, in all phases.
func TestSamplesAreValid(t *testing.T) {
	phases := map[api.Phase]int{}
	for i, r := range runtimes(300) {
		if why := sched.Check(r); why != api.OK {
			t.Errorf("runtime %d: error %d", i, why)
		}
		phases[r.Gc.Phase]++
	}
	for i := range api.PhaseCount {
		if phases[i] < 30 {
			t.Error(phases)
		}
	}
}

// TestInvalidComesFirst: what is not valid comes before all other errors, and there is no result.
func TestInvalidComesFirst(t *testing.T) {
	kinds := append(sample.OpKinds(), sample.BadOpKinds()...)
	for i, r := range sample.BadRuntimes() {
		op := api.Op{Kind: kinds[i%len(kinds)], A: i%7 - 1, B: i%6 - 1, Field: i%5 - 1, Shape: api.Shape{N: i % 60}}
		if got, reg, why := mut.Do(r, i%6-1, op); !same(got, api.Runtime{}) || reg != (api.Reg{}) || why != api.ErrForm {
			t.Errorf("Do in invalid runtime %d, %v: %v, error %d", i, op, reg, why)
		}
		if got, why := mut.Force(r); !same(got, api.Runtime{}) || why != api.ErrForm {
			t.Errorf("Force in invalid runtime %d: error %d", i, why)
		}
		if reg, why := mut.Reg(r, i%6-1, i%7-1); reg != (api.Reg{}) || why != api.ErrForm {
			t.Errorf("Reg in invalid runtime %d: %v, error %d", i, reg, why)
		}
	}
}

// 19.1

func TestReg(t *testing.T) {
	for i, r := range runtimes(100) {
		for who, m := range r.Mutators {
			for k, want := range m.Regs {
				if reg, why := mut.Reg(r, who, k); reg != want || why != api.OK {
					t.Errorf("runtime %d, mutator %d, register %d: %v, error %d; want %v", i, who, k, reg, why, want)
				}
			}
		}
	}
}

// TestRegErrors: that there is no such mutator comes before that it has no such register.
func TestRegErrors(t *testing.T) {
	r := sample.BusyRuntime()
	for _, who := range append(wrong(), 3) {
		for _, reg := range append(wrong(), 0, 3) {
			if got, why := mut.Reg(r, who, reg); got != (api.Reg{}) || why != api.ErrTask {
				t.Error(who, reg, got, why)
			}
		}
	}
	for _, reg := range wrong() {
		for who := range 3 {
			if got, why := mut.Reg(r, who, reg); got != (api.Reg{}) || why != api.ErrRange {
				t.Error(who, reg, got, why)
			}
		}
	}
}

// TestForce: a forced collection is the steps of the collector one by one, from any phase on.
func TestForce(t *testing.T) {
	counts := map[api.Phase]map[bool]int{}
	p := sample.Picks(132)
	for i, r := range runtimes(300) {
		if p.Below(2) == 0 {
			r.Gc.Queue = append(r.Gc.Queue, slices.Repeat([]api.Item{sample.CleanItem(1)}, 256-len(r.Gc.Queue))...)
		}
		want, ok := forced(r)
		if counts[r.Gc.Phase] == nil {
			counts[r.Gc.Phase] = map[bool]int{}
		}
		counts[r.Gc.Phase][ok]++
		got, why := mut.Force(r)
		if !ok && (why != api.ErrFull || !same(got, r)) || ok && (why != api.OK || !same(got, want) || got.Gc.Phase != api.PhaseIdle) {
			t.Errorf("runtime %d, in phase %d: error %d", i, r.Gc.Phase, why)
		}
	}
	for phase := range api.PhaseCount {
		if counts[phase][true] < 20 || counts[phase][false] < 3 {
			t.Error(counts)
		}
	}
}

// TestForceTwice: a forced collection ends the one that is under way, and is a whole one besides: what was marked too early is freed, too.
func TestForceTwice(t *testing.T) {
	for _, phase := range []api.Phase{api.PhaseMark, api.PhaseLate} {
		g := sample.SixMarked(phase, 16, 18, 20, 22, 24, 26)
		g.Table, g.Specials, g.Weak = api.Ephem{}, nil, nil
		m := sample.Scanned(sample.Mutator(sample.Ref(22)))
		got, why := mut.Force(sample.Runtime(g, m))
		if l := sample.Addrs(got.Gc.Marker.Heap); !slices.Equal(l, []uint64{22, 24}) || got.Gc.Phase != api.PhaseIdle || why != api.OK {
			t.Error(phase, l, got.Gc.Phase, why)
		}
	}
}

// TestForceFails: without room in the queue, a forced collection fails, and nothing has changed: whether it cannot end the collection that is under way, or not the other one. What waits is not run by it.
func TestForceFails(t *testing.T) {
	full := slices.Repeat([]api.Item{sample.CleanItem(1)}, 256)
	idle, mark := sample.ThreeLists(), sample.Runtime(sample.SixMarked(api.PhaseMark, 16), sample.Mutator())
	late := sample.Runtime(sample.SixMarked(api.PhaseLate, 16, 22, 20, 24), sample.Scanned(sample.Mutator()))
	swept := sample.ThreeLists()
	swept.Gc.Phase = api.PhaseSweep
	// The cleanup of 22 waits only after the second of the two collections.
	second := sample.Runtime(sample.SixMarked(api.PhaseMark, 22, 24), sample.Mutator())
	second.Gc.Table, second.Gc.Weak, second.Gc.Specials = api.Ephem{}, nil, []api.Special{sample.Cleanup(22, 1)}
	for i, r := range []api.Runtime{idle, mark, late, swept, second} {
		r.Gc.Queue = full
		if got, why := mut.Force(r); !same(got, r) || why != api.ErrFull {
			t.Errorf("runtime %d: error %d", i, why)
		}
		r.Gc.Queue = nil
		if got, why := mut.Force(r); why != api.OK || len(got.Gc.Queue) == 0 {
			t.Errorf("runtime %d: error %d, %v", i, why, got.Gc.Queue)
		}
	}
}

// 19.2

// TestDo: each operation, as it comes, in each phase.
func TestDo(t *testing.T) {
	counts := map[api.OpKind]map[api.Errno]int{}
	p := sample.Picks(133)
	for i, r := range runtimes(400) {
		for k := range 70 {
			op := sample.SomeOp(&p)
			op.Kind = sample.OpKinds()[k%14]
			if p.Below(9) == 0 {
				op.Field, op.Shape, op.W = p.Below(52)-2, api.Shape{N: p.Below(52) - 2, Mask: p.Word() >> p.Below(64)}, p.Word()
			}
			who := p.Below(len(r.Mutators))
			want, wanted, no := done(r, who, op)
			got, reg, why := mut.Do(r, who, op)
			if !same(got, want) || reg != wanted || why != no {
				t.Fatalf("runtime %d, mutator %d, %v: %v, error %d; want %v, %d", i, who, op, reg, why, wanted, no)
			}
			if counts[op.Kind] == nil {
				counts[op.Kind] = map[api.Errno]int{}
			}
			counts[op.Kind][no]++
		}
	}
	for kind, errors := range map[api.OpKind][]api.Errno{
		api.OpNew: {api.ErrForm, api.ErrFull}, api.OpLoad: {api.ErrType, api.ErrNil, api.ErrField},
		api.OpStore: {api.ErrType, api.ErrNil, api.ErrField}, api.OpMove: {}, api.OpConst: {}, api.OpNil: {},
		api.OpWeak: {api.ErrType, api.ErrNil}, api.OpUpgrade: {api.ErrType, api.ErrNone}, api.OpPut: {api.ErrType, api.ErrNil},
		api.OpGet: {api.ErrType, api.ErrNil, api.ErrNone}, api.OpDel: {api.ErrType, api.ErrNil, api.ErrNone},
		api.OpFinal: {api.ErrType, api.ErrNil, api.ErrTwice, api.ErrFull}, api.OpClean: {api.ErrType, api.ErrNil, api.ErrFull}, api.OpGc: {api.ErrState},
	} {
		for _, why := range append(errors, api.OK) {
			if counts[kind][why] < 10 {
				t.Error(kind, why, counts[kind])
			}
		}
	}
}

// TestDoLarge: the operations are executed in the greatest heaps, too.
func TestDoLarge(t *testing.T) {
	for i, r := range sample.Runtimes() {
		if len(r.Gc.Marker.Heap.Spans) <= 100 || r.Gc.Phase != api.PhaseIdle {
			continue
		}
		r.Mutators[0] = sample.Mutator(sample.Ref(16), sample.Num(1), sample.Ref(16))
		for _, kind := range sample.OpKinds() {
			op := api.Op{Kind: kind, B: 2, Shape: api.Shape{N: 48}}
			want, wanted, no := done(r, 0, op)
			if got, reg, why := mut.Do(r, 0, op); !same(got, want) || reg != wanted || why != no {
				t.Errorf("runtime %d, %v: %v, error %d; want %v, %d", i, op, reg, why, wanted, no)
			}
		}
	}
}

// TestErrorsInOrder: first there has to be the mutator, then the kind, then the registers, and only then is it asked what these contain, and whether there is such a field and such a shape.
func TestErrorsInOrder(t *testing.T) {
	bad := api.Shape{N: 49}
	kinds := append(sample.OpKinds(), sample.BadOpKinds()...)
	for _, r := range []api.Runtime{sample.BusyRuntime(), sample.ThreeLists()} {
		refuse := func(who int, op api.Op, want api.Errno) {
			t.Helper()
			if got, reg, why := mut.Do(r, who, op); !same(got, r) || reg != (api.Reg{}) || why != want {
				t.Errorf("mutator %d, %v: %v, error %d, want %d", who, op, reg, why, want)
			}
		}
		for _, who := range append(wrong(), len(r.Mutators)) {
			for _, kind := range kinds {
				refuse(who, api.Op{Kind: kind, A: who, B: 4, Field: -1, Shape: bad}, api.ErrTask)
				refuse(who, api.Op{Kind: kind, A: 1, B: 2}, api.ErrTask)
			}
		}
		for _, kind := range sample.BadOpKinds() {
			for _, reg := range append(wrong(), 0, 3) {
				refuse(0, api.Op{Kind: kind, A: reg, B: reg, Field: -1, Shape: bad}, api.ErrForm)
			}
		}
		for _, kind := range sample.OpKinds() {
			for _, reg := range wrong() {
				if kind == api.OpGc {
					continue
				}
				refuse(1, api.Op{Kind: kind, A: reg, B: 1, Field: -1, Shape: bad}, api.ErrRange)
				if sample.HasTwo(kind) {
					refuse(1, api.Op{Kind: kind, A: 1, B: reg, Field: -1, Shape: bad}, api.ErrRange)
					refuse(1, api.Op{Kind: kind, A: reg, B: reg, Field: -1, Shape: bad}, api.ErrRange)
				}
			}
		}
	}
}

// TestFieldsThatAreNoMatter: what an operation of that kind has not is not asked for.
func TestFieldsThatAreNoMatter(t *testing.T) {
	start := sample.ThreeLists()
	start.Mutators[0].Regs[3] = sample.Num(1)
	start.Gc.Weak = []uint64{16}
	start.Gc.Table = sample.Pairs(8, 16, 16)
	for _, op := range []api.Op{
		{Kind: api.OpNew, Shape: api.Shape{N: 3, Mask: 5}}, {Kind: api.OpLoad, B: 2}, {Kind: api.OpStore, A: 2, B: 2}, {Kind: api.OpMove, B: 2},
		{Kind: api.OpConst, W: 5}, {Kind: api.OpNil}, {Kind: api.OpWeak, B: 2}, {Kind: api.OpUpgrade, B: 3}, {Kind: api.OpPut, A: 2, B: 2},
		{Kind: api.OpGet, B: 2}, {Kind: api.OpDel, A: 2}, {Kind: api.OpFinal, A: 2, W: 8}, {Kind: api.OpClean, A: 2, W: 8}, {Kind: api.OpGc},
	} {
		want, wanted, why := mut.Do(start, 0, op)
		if why != api.OK {
			t.Errorf("%v: error %d", op, why)
		}
		for _, n := range wrong() {
			odd := op
			if op.Kind == api.OpGc {
				odd.A = n
			}
			if !sample.HasTwo(op.Kind) {
				odd.B = n
			}
			if op.Kind != api.OpLoad && op.Kind != api.OpStore {
				odd.Field = n
			}
			if op.Kind != api.OpNew {
				odd.Shape = api.Shape{N: n, Mask: math.MaxUint64}
			}
			if op.Kind != api.OpConst && op.Kind != api.OpFinal && op.Kind != api.OpClean {
				odd.W = math.MaxUint64
			}
			if got, reg, why := mut.Do(start, 0, odd); !same(got, want) || reg != wanted || why != api.OK {
				t.Errorf("%v: %v, error %d", odd, reg, why)
			}
		}
	}
}

// TestChapter: the chapter's own example, step by step.
func TestChapter(t *testing.T) {
	r, why := sched.Make(4, 1, 2)
	if why != api.OK {
		t.Fatal(why)
	}
	pair := api.Shape{N: 2, Mask: 1}
	do := func(who int, op api.Op, want api.Errno) api.Reg {
		t.Helper()
		got, reg, why := mut.Do(r, who, op)
		if why != want || sched.Check(got) != api.OK || want != api.OK && (!same(got, r) || reg != (api.Reg{})) {
			t.Fatalf("mutator %d, %v: error %d", who, op, why)
		}
		if op.Kind != api.OpGc && want == api.OK && got.Mutators[who].Regs[op.A] != reg {
			t.Fatalf("mutator %d, %v: %v", who, op, reg)
		}
		r = got
		return reg
	}
	do(0, api.Op{Kind: api.OpNew, A: 0, Shape: pair}, api.OK)
	second := do(0, api.Op{Kind: api.OpNew, A: 1, Shape: pair}, api.OK)
	do(0, api.Op{Kind: api.OpConst, A: 2, W: 77}, api.OK)
	if reg := do(0, api.Op{Kind: api.OpStore, A: 1, B: 2, Field: 1}, api.OK); reg != second {
		t.Error("OpStore:", reg)
	}
	do(0, api.Op{Kind: api.OpStore, A: 1, B: 2, Field: 0}, api.ErrType)
	do(0, api.Op{Kind: api.OpStore, A: 1, B: 2, Field: 2}, api.ErrField)
	do(0, api.Op{Kind: api.OpStore, A: 0, B: 1, Field: 0}, api.OK)
	if reg := do(0, api.Op{Kind: api.OpWeak, A: 2, B: 1}, api.OK); reg != sample.Num(1) {
		t.Error("OpWeak:", reg)
	}
	if reg := do(0, api.Op{Kind: api.OpNil, A: 1}, api.OK); reg != sample.Ref(0) {
		t.Error("OpNil:", reg)
	}
	if reg := do(0, api.Op{Kind: api.OpGc}, api.OK); reg != (api.Reg{}) || r.Gc.Phase != api.PhaseMark {
		t.Error("OpGc:", reg, r.Gc.Phase)
	}
	do(0, api.Op{Kind: api.OpGc}, api.ErrState)
	if reg := do(0, api.Op{Kind: api.OpLoad, A: 1, B: 0, Field: 0}, api.OK); reg != second {
		t.Error("OpLoad:", reg)
	}
	if reg := do(0, api.Op{Kind: api.OpLoad, A: 3, B: 1, Field: 1}, api.OK); reg != sample.Num(77) {
		t.Error("OpLoad:", reg)
	}
	if reg := do(0, api.Op{Kind: api.OpUpgrade, A: 3, B: 2}, api.OK); reg != second {
		t.Error("OpUpgrade:", reg)
	}
	do(0, api.Op{Kind: api.OpUpgrade, A: 3, B: 0}, api.ErrType)
	do(0, api.Op{Kind: api.OpMove, A: 3, B: 4}, api.ErrRange)
	do(2, api.Op{Kind: api.OpNil}, api.ErrTask)
	do(0, api.Op{Kind: api.OpCount}, api.ErrForm)
}

// TestWeakExample: the example of the whole chapter: once nothing else refers to its object, a weak handle refers to nothing after a collection.
func TestWeakExample(t *testing.T) {
	r, _ := sched.Make(4, 1, 1)
	for _, op := range []api.Op{
		{Kind: api.OpNew, A: 0, Shape: api.Shape{N: 2, Mask: 1}}, {Kind: api.OpWeak, A: 1, B: 0}, {Kind: api.OpNil, A: 0}, {Kind: api.OpGc},
	} {
		got, _, why := mut.Do(r, 0, op)
		if why != api.OK {
			t.Fatal(op, why)
		}
		r = got
	}
	for r.Gc.Phase != api.PhaseIdle {
		l, _ := sched.Tasks(r)
		r, _, _ = sched.Do(r, l[0])
	}
	r, reg, why := mut.Do(r, 0, api.Op{Kind: api.OpUpgrade, A: 0, B: 1})
	if reg != sample.Ref(0) || r.Mutators[0].Regs[0] != sample.Ref(0) || why != api.OK {
		t.Error(reg, why)
	}
}
