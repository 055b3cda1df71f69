package micro_test

import (
	"math"
	"slices"
	"testing"

	"besom/api"
	"besom/heap"
	"besom/micro"
	"besom/sample"
)

// TestInvalidComesFirst: what is not valid comes before all other errors, and there is no result.
func TestInvalidComesFirst(t *testing.T) {
	for i, m := range sample.BadMicros() {
		if why := micro.Check(m); why != api.ErrForm {
			t.Errorf("Check of invalid value %d: error %d", i, why)
		}
		for _, worker := range []int{-1, 0, 1, math.MaxInt} {
			if got, access, why := micro.Step(m, worker); !same(got, api.Micro{}) || access != api.AccessNone || why != api.ErrForm {
				t.Errorf("Step of invalid value %d: %d, error %d", i, access, why)
			}
			if got, n, lost, why := micro.Run(m, worker); !same(got, api.Micro{}) || n != 0 || lost != 0 || why != api.ErrForm {
				t.Errorf("Run of invalid value %d: %d, %d, error %d", i, n, lost, why)
			}
		}
		if got, n, lost, why := micro.Run(m); !same(got, api.Micro{}) || n != 0 || lost != 0 || why != api.ErrForm {
			t.Errorf("Run of invalid value %d: %d, %d, error %d", i, n, lost, why)
		}
		if done, why := micro.Done(m); done || why != api.ErrForm {
			t.Errorf("Done of invalid value %d: %v, error %d", i, done, why)
		}
		if l, why := micro.Marked(m); len(l) != 0 || why != api.ErrForm {
			t.Errorf("Marked of invalid value %d: %d, error %d", i, l, why)
		}
	}
}

// 27.1

func TestMake(t *testing.T) {
	p := sample.Picks(301)
	counts := map[api.Errno]int{}
	try := func(h api.Heap, n int, roots ...uint64) {
		t.Helper()
		want, no := made(h, n, roots...)
		got, why := micro.Make(h, n, roots...)
		if !same(got, want) || why != no {
			t.Errorf("Make with %d workers, from %d: %v, %v, error %d; want %v, %v, %d", n, roots, got.Marks, got.Grey, why, want.Marks, want.Grey, no)
		}
		if why == api.OK && micro.Check(got) != api.OK {
			t.Errorf("Make with %d workers, from %d: not valid", n, roots)
		}
		counts[no]++
	}
	heaps := append(sample.SweptHeaps(60), sample.FarPairs(), sample.ThreePairs(), sample.Heap(1, nil))
	for i, h := range append(heaps, sample.Heaps()...) {
		for _, n := range sample.WorkerNumbers() {
			try(h, n)
			try(h, n, sample.SomeRoots(&p, h)...)
		}
		addrs := append(sample.Addrs(h), 0, 0)
		slices.Reverse(addrs)
		try(h, 1+i%4, addrs...)
		try(h, 1+i%4, append(addrs, addrs...)...)
		for _, addr := range []uint64{1, 2, 15, 17, 18, 24, 28, 64, 96, 128, 16384, 1 << 32, 1<<32 + 16, 1<<60 + 16, 1 << 63, math.MaxUint64} {
			try(h, 2, addr)
			try(h, 2, append(addrs, addr, 0)...)
			try(h, i%6, append([]uint64{addr}, addrs...)...)
		}
	}
	for i, h := range sample.BadHeaps() {
		try(h, i%6)
		try(h, i%6, 16, 17)
	}
	for _, why := range []api.Errno{api.OK, api.ErrForm, api.ErrState, api.ErrRange, api.ErrDead} {
		if counts[why] < 100 {
			t.Error("error", why, counts[why])
		}
	}
}

// TestMakeErrors: the errors in the order in which they come.
func TestMakeErrors(t *testing.T) {
	late := sample.ThreePairs()
	late.Spans[0] = sample.Unswept(late.Spans[0])
	one := sample.Heap(4, []api.Span{sample.Span(1, 1, 4, 7, 0), sample.Unswept(sample.Span(2, 1, 2, 0, 0))})
	copy(one.Arena.Words, sample.ThreePairs().Arena.Words)
	for i, x := range []struct {
		h     api.Heap
		n     int
		roots []uint64
		want  api.Errno
	}{
		{api.Heap{}, 0, []uint64{17}, api.ErrForm},
		{late, 0, []uint64{17}, api.ErrState},
		{sample.Marks(late, 16, 20, 24), 2, []uint64{16}, api.ErrState},
		{one, 2, nil, api.ErrState},
		{sample.ThreePairs(), 0, []uint64{17}, api.ErrRange},
		{sample.ThreePairs(), 5, []uint64{16}, api.ErrRange},
		{sample.ThreePairs(), 4, []uint64{0, 16, 18}, api.ErrDead},
	} {
		if got, why := micro.Make(x.h, x.n, x.roots...); !same(got, api.Micro{}) || why != x.want {
			t.Errorf("%d: error %d, want %d", i, why, x.want)
		}
	}
}

// TestMakeMany: so many roots that are the same are one.
func TestMakeMany(t *testing.T) {
	h := sample.FullSpans()
	addrs := sample.Addrs(h)
	roots := slices.Repeat(append(slices.Clone(addrs), 0), 50)
	got, why := micro.Make(h, 3, roots...)
	if !same(got, sample.Micro(h, addrs, make([]api.MicroHand, 3), addrs)) || why != api.OK {
		t.Error(why)
	}
}

func TestCheck(t *testing.T) {
	for i, m := range append(micros(302, 300), sample.Micros()...) {
		if why := micro.Check(m); why != api.OK || checked(m) != api.OK {
			t.Errorf("value %d: error %d", i, why)
		}
	}
	for i, m := range sample.BadMicros() {
		if why := micro.Check(m); why != api.ErrForm || checked(m) != api.ErrForm {
			t.Errorf("invalid value %d: error %d", i, why)
		}
	}
}

// TestCheckHands: a hand is right or not whatever each of its parts is.
func TestCheckHands(t *testing.T) {
	h := sample.ThreeLinked()
	counts := map[api.Errno]int{}
	for pc := range api.MicroCount + 2 {
		for _, obj := range []uint64{0, 16, 18, 32, 34} {
			for _, shape := range []api.Shape{{}, {N: 3, Mask: 5}, {N: 1}, {N: 1, Mask: 1}} {
				for field := -1; field <= 4; field++ {
					for _, to := range []uint64{0, 16, 17, 34} {
						for _, word := range []uint64{0, 1, 1 << 8} {
							hand := api.MicroHand{Pc: pc, Obj: obj, Shape: shape, Field: field, To: to, Seen: word}
							m := sample.Micro(h, nil, []api.MicroHand{{}, hand})
							want := checked(m)
							if why := micro.Check(m); why != want {
								t.Errorf("%v: error %d, want %d", hand, why, want)
							}
							counts[want]++
						}
					}
				}
			}
		}
	}
	if counts[api.OK] < 30 || counts[api.ErrForm] < 1000 {
		t.Error(counts)
	}
}

// TestCheckMarks: each mark is that of the object at twice its place, and of no other.
func TestCheckMarks(t *testing.T) {
	h := sample.FarPairs()
	for bit := range 512 {
		m := sample.Micro(h, nil, make([]api.MicroHand, 1))
		m.Marks[bit/64] = 1 << (bit % 64)
		_, there := objectAt(h, uint64(2*bit))
		if why := micro.Check(m); (why == api.OK) != there {
			t.Errorf("mark %d: error %d", bit, why)
		}
		l, why := micro.Marked(m)
		if there && (!slices.Equal(l, []uint64{uint64(2 * bit)}) || why != api.OK) {
			t.Errorf("mark %d: %d, error %d", bit, l, why)
		}
	}
}

func TestDone(t *testing.T) {
	var done int
	for i, m := range append(micros(303, 300), sample.Micros()...) {
		got, why := micro.Done(m)
		if got != !left(m) || why != api.OK {
			t.Errorf("Done of value %d: %v, error %d", i, got, why)
		}
		if got {
			done++
		}
	}
	if done < 10 {
		t.Error(done)
	}
	// Each hand and each queue counts.
	for worker := range 4 {
		m := sample.Micro(sample.ThreePairs(), nil, make([]api.MicroHand, 4))
		if got, why := micro.Done(m); !got || why != api.OK {
			t.Error(got, why)
		}
		m.Hands[worker] = api.MicroHand{Pc: api.MicroHead, Obj: 16}
		if got, why := micro.Done(m); got || why != api.OK {
			t.Error("hand", worker, got, why)
		}
		m.Hands[worker] = api.MicroHand{}
		m.Grey.Queues[worker] = []uint64{16}
		if got, why := micro.Done(m); got || why != api.OK {
			t.Error("queue", worker, got, why)
		}
	}
}

func TestMarked(t *testing.T) {
	var many int
	for i, m := range append(micros(304, 500), sample.Micros()...) {
		want := markedOf(m)
		if got, why := micro.Marked(m); !slices.Equal(got, want) || why != api.OK {
			t.Errorf("Marked of value %d: %d, error %d; want %d", i, got, why, want)
		}
		many += len(want)
	}
	if many < 1000 {
		t.Error(many)
	}
}

// 27.2

// step is a Step that is to answer what the chapter's words say.
func step(t *testing.T, m api.Micro, worker int) (api.Micro, api.Access, api.Errno) {
	t.Helper()
	want, to, no := stepped(m, worker)
	got, access, why := micro.Step(m, worker)
	if !same(got, want) || access != to || why != no {
		t.Fatalf("Step of %d: %v, %v, %v, %d, error %d; want %v, %v, %v, %d, %d", worker, got.Marks, got.Grey, got.Hands, access, why, want.Marks, want.Grey, want.Hands, to, no)
	}
	return got, access, why
}

func TestStep(t *testing.T) {
	errs, accesses := map[api.Errno]int{}, map[api.Access]int{}
	for _, m := range append(micros(305, 400), sample.Micros()...) {
		for _, worker := range sample.WorkerNumbers() {
			_, access, why := step(t, m, worker)
			errs[why]++
			if why == api.OK {
				accesses[access]++
			}
		}
	}
	for _, why := range []api.Errno{api.OK, api.ErrTask, api.ErrNone} {
		if errs[why] < 15 {
			t.Error("error", why, errs[why])
		}
	}
	for access := range api.AccessCount {
		if accesses[access] < 15 {
			t.Error("access", access, accesses[access])
		}
	}
}

// TestStepOn: step after step, of workers as they come, till there is none left.
func TestStepOn(t *testing.T) {
	p := sample.Picks(306)
	accesses := map[api.Access]int{}
	for i, m := range append(micros(307, 100), busy(315, 150)...) {
		for left(m) {
			var access api.Access
			var why api.Errno
			m, access, why = step(t, m, p.Below(len(m.Hands)))
			if micro.Check(m) != api.OK {
				t.Fatalf("value %d is not valid", i)
			}
			if why == api.OK {
				accesses[access]++
			}
		}
	}
	for access := range api.AccessCount {
		if accesses[access] < 100 {
			t.Error("access", access, accesses[access])
		}
	}
}

// TestStepKinds: each of the kinds of steps, on its own.
func TestStepKinds(t *testing.T) {
	pairs, linked := sample.ThreePairs(), sample.ThreeLinked()
	two, three, one := api.Shape{N: 2, Mask: 3}, api.Shape{N: 3, Mask: 5}, api.Shape{N: 1}
	hands := func(l ...api.MicroHand) []api.MicroHand { return l }
	head := api.MicroHand{Pc: api.MicroHead, Obj: 16}
	field := func(n int) api.MicroHand { return api.MicroHand{Pc: api.MicroField, Obj: 16, Shape: two, Field: n} }
	at := func(pc api.MicroPc, word uint64) []api.MicroHand {
		return hands(api.MicroHand{Pc: pc, Obj: 16, Shape: two, To: 24, Seen: word}, api.MicroHand{})
	}
	in := func(h api.Heap, n int, shape api.Shape, to uint64) api.Micro {
		hand := api.MicroHand{Pc: api.MicroField, Obj: 16, Shape: shape, Field: n}
		if to != 0 {
			hand.Pc, hand.To = api.MicroSeen, to
		}
		return sample.Micro(h, nil, hands(hand))
	}
	queue := []uint64{16, 20}
	for i, x := range []struct {
		from, to api.Micro
		access   api.Access
	}{
		// MicroIdle: the last address of the worker's own queue is taken, or the first one of another's.
		{sample.Micro(pairs, nil, hands(api.MicroHand{}), []uint64{20, 16}), sample.Micro(pairs, nil, hands(head), []uint64{20}), api.AccessQueue},
		{sample.Micro(pairs, nil, hands(api.MicroHand{}, api.MicroHand{}), nil, queue), sample.Micro(pairs, nil, hands(head, api.MicroHand{}), nil, queue[1:]), api.AccessQueue},
		// MicroHead
		{sample.Micro(pairs, nil, hands(head), queue), sample.Micro(pairs, nil, hands(field(0)), queue), api.AccessArena},
		{sample.Micro(linked, nil, hands(head)), in(linked, 0, three, 0), api.AccessArena},
		{sample.Micro(linked, nil, hands(api.MicroHand{Pc: api.MicroHead, Obj: 32})), sample.Micro(linked, nil, hands(api.MicroHand{Pc: api.MicroField, Obj: 32, Shape: one})), api.AccessArena},
		// MicroField: a field that refers to an object, one that refers to nothing, and none any more.
		{in(pairs, 0, two, 0), in(pairs, 0, two, 24), api.AccessArena},
		{in(pairs, 1, two, 0), in(pairs, 2, two, 0), api.AccessArena},
		{in(pairs, 2, two, 0), sample.Micro(pairs, nil, make([]api.MicroHand, 1)), api.AccessNone},
		{in(linked, 0, three, 0), in(linked, 0, three, 32), api.AccessArena},
		{in(linked, 1, three, 0), in(linked, 2, three, 34), api.AccessArena},
		{in(linked, 2, three, 0), in(linked, 2, three, 34), api.AccessArena},
		{in(linked, 3, three, 0), sample.Micro(linked, nil, make([]api.MicroHand, 1)), api.AccessNone},
		{sample.Micro(linked, nil, hands(api.MicroHand{Pc: api.MicroField, Obj: 32, Shape: one})), sample.Micro(linked, nil, make([]api.MicroHand, 1)), api.AccessNone},
		// MicroSeen: the object is not marked, or is.
		{sample.Micro(pairs, queue, at(api.MicroSeen, 0)), sample.Micro(pairs, queue, at(api.MicroSwap, 1<<8+1<<10)), api.AccessMark},
		{sample.Micro(pairs, nil, at(api.MicroSeen, 0)), sample.Micro(pairs, nil, at(api.MicroSwap, 0)), api.AccessMark},
		{sample.Micro(pairs, []uint64{24}, at(api.MicroSeen, 0)), sample.Micro(pairs, []uint64{24}, hands(field(1), api.MicroHand{})), api.AccessMark},
		// MicroSwap: the word is as it was seen, or another mark, or the object's own, was set meanwhile.
		{sample.Micro(pairs, queue, at(api.MicroSwap, 1<<8+1<<10)), sample.Micro(pairs, []uint64{16, 20, 24}, at(api.MicroPush, 0)), api.AccessSwap},
		{sample.Micro(pairs, nil, at(api.MicroSwap, 0)), sample.Micro(pairs, []uint64{24}, at(api.MicroPush, 0)), api.AccessSwap},
		{sample.Micro(pairs, queue, at(api.MicroSwap, 1<<8)), sample.Micro(pairs, queue, at(api.MicroSeen, 0)), api.AccessLost},
		{sample.Micro(pairs, []uint64{24}, at(api.MicroSwap, 0)), sample.Micro(pairs, []uint64{24}, at(api.MicroSeen, 0)), api.AccessLost},
		{sample.Micro(pairs, nil, at(api.MicroSwap, 1<<12)), sample.Micro(pairs, nil, at(api.MicroSeen, 0)), api.AccessLost},
		{sample.Micro(pairs, []uint64{24}, at(api.MicroSwap, 1<<12)), sample.Micro(pairs, []uint64{24}, at(api.MicroPush, 0)), api.AccessSwap},
		// MicroPush: what is in a queue already is not pushed once more.
		{sample.Micro(pairs, []uint64{24}, at(api.MicroPush, 0), queue), sample.Micro(pairs, []uint64{24}, hands(field(1), api.MicroHand{}), []uint64{16, 20, 24}), api.AccessQueue},
		{sample.Micro(pairs, nil, at(api.MicroPush, 0), queue), sample.Micro(pairs, nil, hands(field(1), api.MicroHand{}), []uint64{16, 20, 24}), api.AccessQueue},
		{sample.Micro(pairs, nil, at(api.MicroPush, 0), []uint64{24, 16}), sample.Micro(pairs, nil, hands(field(1), api.MicroHand{}), []uint64{24, 16}), api.AccessQueue},
		{sample.Micro(pairs, nil, at(api.MicroPush, 0), nil, []uint64{24}), sample.Micro(pairs, nil, hands(field(1), api.MicroHand{}), nil, []uint64{24}), api.AccessQueue},
	} {
		if got, access, why := micro.Step(x.from, 0); !same(got, x.to) || access != x.access || why != api.OK {
			t.Errorf("step %d: %v, %v, %v, %d, error %d", i, got.Marks, got.Grey, got.Hands, access, why)
		}
	}
}

// TestStepFar: the marks of objects are found in all words, at their ends; what happens in one word does not disturb a swap in another.
func TestStepFar(t *testing.T) {
	h := sample.FarPairs()
	ref := api.Shape{N: 1, Mask: 1}
	for _, to := range []uint64{126, 128, 254, 256, 1022} {
		hand := api.MicroHand{Pc: api.MicroSeen, Obj: 126, Shape: ref, To: to}
		others := slices.DeleteFunc(sample.Addrs(h), func(addr uint64) bool { return addr/128 == to/128 })
		m := sample.Micro(h, nil, []api.MicroHand{hand})
		m, access, why := micro.Step(m, 0)
		if access != api.AccessMark || why != api.OK || m.Hands[0].Seen != 0 || m.Hands[0].Pc != api.MicroSwap {
			t.Error(to, access, why, m.Hands)
		}
		m.Marks = sample.MarkBits(h, others...)
		m, access, why = micro.Step(m, 0)
		if access != api.AccessSwap || why != api.OK || !slices.Equal(m.Marks, sample.MarkBits(h, append(others, to)...)) {
			t.Error(to, access, why, m.Marks)
		}
		m.Hands[0] = hand
		m, access, why = micro.Step(m, 0)
		if access != api.AccessMark || why != api.OK || m.Hands[0] != (api.MicroHand{Pc: api.MicroField, Obj: 126, Shape: ref, Field: 1}) {
			t.Error(to, access, why, m.Hands)
		}
	}
}

// TestStepErrors: the errors in the order in which they come.
func TestStepErrors(t *testing.T) {
	none := sample.Micro(sample.ThreePairs(), []uint64{16}, []api.MicroHand{{}, {Pc: api.MicroHead, Obj: 16}})
	for _, m := range []api.Micro{none, seen(), sample.Micro(sample.ThreePairs(), nil, make([]api.MicroHand, 2), []uint64{16})} {
		for _, worker := range append(sample.Ints(), -1, 2) {
			if got, access, why := micro.Step(m, worker); !same(got, m) || access != api.AccessNone || why != api.ErrTask {
				t.Errorf("Step of %d: %d, error %d", worker, access, why)
			}
		}
	}
	if got, access, why := micro.Step(none, 0); !same(got, none) || access != api.AccessNone || why != api.ErrNone {
		t.Errorf("Step of nothing: %d, error %d", access, why)
	}
	if _, access, why := micro.Step(none, 1); access != api.AccessArena || why != api.OK {
		t.Errorf("Step beside nothing: %d, error %d", access, why)
	}
}

// 27.3

func TestRun(t *testing.T) {
	p := sample.Picks(308)
	counts := map[api.Errno]int{}
	many := 0
	for i, m := range append(micros(309, 100), busy(316, 60)...) {
		for _, l := range sample.Crews(&p, len(m.Hands)) {
			want, n, k, no := ran(m, l)
			got, steps, lost, why := micro.Run(m, l...)
			if !same(got, want) || steps != n || lost != k || why != no {
				t.Errorf("Run of value %d for %d: %d, %d, error %d; want %d, %d, %d", i, l, steps, lost, why, n, k, no)
			}
			if why == api.OK && (micro.Check(got) != api.OK || left(got)) {
				t.Errorf("Run of value %d for %d: not valid, or not Done", i, l)
			}
			counts[no]++
			many += lost
		}
	}
	if counts[api.OK] < 500 || counts[api.ErrTask] < 500 || many < 100 {
		t.Error(counts, many)
	}
}

// TestRunErrors: a worker that there is not, whether or not there is something to do.
func TestRunErrors(t *testing.T) {
	none := sample.Micro(sample.ThreePairs(), []uint64{16}, make([]api.MicroHand, 2))
	for _, m := range []api.Micro{none, seen()} {
		for _, worker := range append(sample.Ints(), -1, 2) {
			for _, l := range [][]int{{worker}, {0, worker}, {worker, 1}, append(make([]int, 5000), worker)} {
				if got, n, lost, why := micro.Run(m, l...); !same(got, m) || n != 0 || lost != 0 || why != api.ErrTask {
					t.Errorf("Run for %d: %d, %d, error %d", worker, n, lost, why)
				}
			}
		}
	}
	for _, l := range [][]int{nil, {1}, {0, 1}} {
		if got, n, lost, why := micro.Run(none, l...); !same(got, none) || n != 0 || lost != 0 || why != api.OK {
			t.Errorf("Run of nothing for %d: %d, %d, error %d", l, n, lost, why)
		}
	}
}

// TestRunTogether: whichever workers run in whichever order, the same is marked.
func TestRunTogether(t *testing.T) {
	p := sample.Picks(310)
	h := sample.AllSwept(sample.Web(&p, 30))
	start, why := micro.Make(h, 3, sample.Addrs(h)[:3]...)
	if why != api.OK {
		t.Fatal(why)
	}
	want, _, _, _ := ran(start, nil)
	for _, l := range [][]int{nil, {0}, {1}, {2}, {0, 1}, {2, 1, 0}, {1, 1, 1, 2}, {0, 2, 2, 0}, make([]int, 20000), slices.Repeat([]int{2}, 20000)} {
		got, n, lost, why := micro.Run(start, l...)
		if !same(got, want) || n == 0 || why != api.OK {
			t.Errorf("Run for %d: %d, error %d", l[:min(len(l), 9)], n, why)
		}
		if len(l) == 1 && lost != 0 {
			t.Errorf("Run for %d alone: %d lost", l, lost)
		}
	}
}

// TestRunForOthers: if only hands of other workers have objects, the first of them executes one step, and the given ones go on with what it finds.
func TestRunForOthers(t *testing.T) {
	pairs := sample.ThreePairs()
	two := api.Shape{N: 2, Mask: 3}
	m := sample.Micro(pairs, []uint64{16, 20, 24}, []api.MicroHand{{}, {Pc: api.MicroPush, Obj: 16, Shape: two, To: 24}, {Pc: api.MicroField, Obj: 20, Shape: two, Field: 2}, {}})
	// Worker 1 pushes l2, which worker 0 takes: header, two fields, and the end. Then worker 1 examines a field and ends, and worker 2 ends.
	if got, n, lost, why := micro.Run(m, 0, 3); !same(got, sample.Micro(pairs, []uint64{16, 20, 24}, make([]api.MicroHand, 4))) || n != 1+5+2+1 || lost != 0 || why != api.OK {
		t.Error(got.Hands, n, lost, why)
	}
}

// TestRunOthersInOrder: of several other workers, the first one executes the step. One of these has seen the word as the other one leaves it: if it comes second, no swap is lost, and otherwise both lose one.
func TestRunOthersInOrder(t *testing.T) {
	h := sample.Heap(2, []api.Span{sample.Span(1, 1, 4, 7, 0)}, sample.Object{Addr: 16, N: 2, Mask: 3}, sample.Object{Addr: 20, N: 2}, sample.Object{Addr: 24, N: 2})
	first := api.MicroHand{Pc: api.MicroSwap, Obj: 16, Shape: api.Shape{N: 2, Mask: 3}, Field: 1, To: 20}
	second := api.MicroHand{Pc: api.MicroSwap, Obj: 16, Shape: api.Shape{N: 2, Mask: 3}, Field: 1, To: 24, Seen: 1 << 10}
	for i, x := range []struct {
		hands []api.MicroHand
		lost  int
	}{{[]api.MicroHand{{}, first, second}, 0}, {[]api.MicroHand{{}, second, first}, 2}, {[]api.MicroHand{{}, {}, first, second}, 0}, {[]api.MicroHand{{}, second, {}, first}, 2}} {
		m := sample.Micro(h, nil, x.hands)
		if got, _, lost, why := micro.Run(m, 0); !same(got, sample.Micro(h, []uint64{20, 24}, make([]api.MicroHand, len(x.hands)))) || lost != x.lost || why != api.OK {
			t.Errorf("%d: %v, %d lost, error %d", i, got.Marks, lost, why)
		}
	}
}

// TestRunLarge: the greatest heaps, one of which is a ring of two thousand objects, are marked to their ends.
func TestRunLarge(t *testing.T) {
	t.Parallel()
	for i, h := range []api.Heap{sample.FullPages(), sample.FullSpans()} {
		all := sample.Addrs(h)
		steps := 0
		for _, o := range sample.Objects(h) {
			// The object is taken, its header is read, and each field and a mark, and that is the end. One of the references is swapped and pushed.
			steps += 2 + 2*len(o.Refs()) + 1 + 2
		}
		m, why := micro.Make(h, 4, all[7])
		if why != api.OK {
			t.Fatal(why)
		}
		// The root was marked and pushed by Make.
		if got, n, lost, why := micro.Run(m, 3); !same(got, sample.Micro(h, all, make([]api.MicroHand, 4))) || n != steps-2 || lost != 0 || why != api.OK {
			t.Errorf("heap %d: %d, %d, error %d; want %d", i, n, lost, why, steps-2)
		}
	}
}

// TestRunFull: all objects of the greatest heaps are roots, and all workers run.
func TestRunFull(t *testing.T) {
	t.Parallel()
	for i, h := range []api.Heap{sample.FullPages(), sample.FullSpans()} {
		all := sample.Addrs(h)
		m, why := micro.Make(h, 4, all...)
		if why != api.OK {
			t.Fatal(why)
		}
		if got, _, lost, why := micro.Run(m); !same(got, sample.Micro(h, all, make([]api.MicroHand, 4))) || lost != 0 || why != api.OK {
			t.Errorf("heap %d: %d, error %d", i, lost, why)
		}
	}
}

// TestChapter: the chapter's own examples, one after the other.
func TestChapter(t *testing.T) {
	h, _ := heap.Make(4)
	pair := api.Shape{N: 2, Mask: 3}
	h, l0, _ := heap.New(h, pair, false)
	h, l1, _ := heap.New(h, pair, false)
	h, l2, _ := heap.New(h, pair, false)
	h, _ = heap.Store(h, l0, 0, l2, true)
	h, _ = heap.Store(h, l1, 1, l2, true)
	if !sample.SameHeaps(h, sample.ThreePairs()) {
		t.Fatal(h)
	}
	if got, why := micro.Make(h, 2, 18); !same(got, api.Micro{}) || why != api.ErrDead {
		t.Error("Make from 18:", why)
	}
	all := sample.Marks(h, l0, l1, l2)
	turned, _ := heap.Turn(all)
	if got, why := micro.Make(turned, 2, l0); !same(got, api.Micro{}) || why != api.ErrState {
		t.Error("Make after Turn:", why)
	}
	m, why := micro.Make(h, 2, l0, l1)
	if why != api.OK {
		t.Fatal(why)
	}
	step := func(worker int, want api.Access) {
		t.Helper()
		var access api.Access
		if m, access, why = micro.Step(m, worker); access != want || why != api.OK {
			t.Fatal(worker, access, why, m.Hands)
		}
	}
	for worker := range 2 {
		step(worker, api.AccessQueue)
		step(worker, api.AccessArena)
		step(worker, api.AccessArena)
	}
	// Worker 0 has l1, whose first field refers to nothing.
	step(0, api.AccessArena)
	if !same(m, seen()) {
		t.Fatal(m.Hands, m.Grey)
	}
	step(0, api.AccessMark)
	step(1, api.AccessMark)
	step(1, api.AccessSwap)
	step(0, api.AccessLost)
	step(0, api.AccessMark)
	if m.Hands[0].Pc != api.MicroField || m.Hands[1].Pc != api.MicroPush {
		t.Fatal(m.Hands)
	}
	m, _, lost, why := micro.Run(m)
	done, no := micro.Done(m)
	if l, _ := micro.Marked(m); !slices.Equal(l, []uint64{l0, l1, l2}) || lost != 0 || why != api.OK || !done || no != api.OK {
		t.Error("Run:", l, lost, why, done, no)
	}
	for worker := range 2 {
		if got, access, why := micro.Step(m, worker); !same(got, m) || access != api.AccessNone || why != api.ErrNone {
			t.Error("Step:", access, why)
		}
	}
}
