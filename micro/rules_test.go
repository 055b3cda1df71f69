package micro_test

import (
	"math"
	"runtime"
	"slices"
	"testing"

	"besom/api"
	"besom/micro"
	"besom/sample"
)

// answer is what a call answers.
type answer struct {
	m       api.Micro
	l       []uint64
	access  api.Access
	n, lost int
}

func (a answer) like(b answer) bool {
	return same(a.m, b.m) && slices.Equal(a.l, b.l) && a.access == b.access && a.n == b.n && a.lost == b.lost
}

func (a answer) twin() answer {
	a.m, a.l = sample.CopyMicro(a.m), slices.Clone(a.l)
	return a
}

// spoils are functions each of which changes one list of an answer, and what lies behind its end.
func (a answer) spoils() []func() {
	return append(sample.SpoilsOfMicro(a.m), sample.SpoilWords(a.l))
}

// calls are all calls that answer lists.
func calls() map[string]func(m api.Micro) answer {
	step := func(worker int) func(m api.Micro) answer {
		return func(m api.Micro) answer {
			out, access, _ := micro.Step(m, worker)
			return answer{m: out, access: access}
		}
	}
	run := func(workers ...int) func(m api.Micro) answer {
		return func(m api.Micro) answer {
			out, n, lost, _ := micro.Run(m, workers...)
			return answer{m: out, n: n, lost: lost}
		}
	}
	return map[string]func(m api.Micro) answer{
		"Make": func(m api.Micro) answer {
			out, _ := micro.Make(m.Heap, len(m.Hands), 0, 16, 16)
			return answer{m: out}
		},
		"Step of -1": step(-1), "Step of 0": step(0), "Step of 1": step(1), "Step of 9": step(9),
		"Run": run(), "Run of 1": run(1), "Run of 1 and 0": run(1, 0, 1), "Run of 9": run(0, 9),
	}
}

// arguments are values with which a step of each kind is executed, and one in which nothing is left.
func arguments() []api.Micro {
	out := []api.Micro{seen(), sample.Micro(sample.ThreePairs(), []uint64{16}, make([]api.MicroHand, 2)), sample.Micro(sample.ThreePairs(), nil, make([]api.MicroHand, 2), []uint64{16, 20}, []uint64{24})}
	for _, m := range append(sample.SmallMicros(), busy(317, 4)...) {
		if len(m.Hands) > 1 && len(m.Heap.Spans) > 0 && len(sample.Addrs(m.Heap)) > 0 && sample.Addrs(m.Heap)[0] == 16 {
			out = append(out, m)
		}
	}
	return out
}

// TestArguments: with one of the arguments a step of each kind is executed, by both workers.
func TestArguments(t *testing.T) {
	kinds, accesses := map[api.MicroPc]int{}, map[api.Access]int{}
	for i, m := range arguments() {
		if why := micro.Check(m); why != api.OK {
			t.Errorf("argument %d: error %d", i, why)
		}
		for worker := range 2 {
			if _, access, why := micro.Step(m, worker); why == api.OK {
				kinds[m.Hands[worker].Pc] |= 1 << worker
				accesses[access]++
			}
		}
	}
	for pc := range api.MicroCount {
		if kinds[pc] != 3 {
			t.Error("Pc", pc, kinds[pc])
		}
	}
	if len(accesses) != int(api.AccessCount) {
		t.Error(accesses)
	}
}

// trial tries the calls with these arguments.
func trial() sample.Trial[api.Micro, answer] {
	return sample.Trial[api.Micro, answer]{
		Calls: calls(), Arguments: arguments(), Roomy: sample.RoomyMicro,
		SpoilsOf: sample.SpoilsOfMicro, Spoils: answer.spoils, Same: same, Like: answer.like, Twin: answer.twin,
	}
}

// 27.4

func TestNewMemory(t *testing.T) {
	for _, fault := range trial().Memory() {
		t.Error(fault)
	}
}

// TestMarkedApart: the list that Marked answers is new.
func TestMarkedApart(t *testing.T) {
	some := trial()
	some.Arguments = slices.DeleteFunc(append(some.Arguments, busy(318, 8)...), func(m api.Micro) bool { return len(markedOf(m)) == 0 })
	some.Calls = map[string]func(m api.Micro) answer{"Marked": func(m api.Micro) answer {
		l, _ := micro.Marked(m)
		return answer{l: l}
	}}
	for _, fault := range append(some.Memory(), some.Again()...) {
		t.Error(fault)
	}
}

// TestListsApart: no two lists of an answer share memory, not even behind their ends, whether or not those of the argument do.
func TestListsApart(t *testing.T) {
	for _, m := range sample.WovenMicros() {
		if why := micro.Check(m); why != api.OK {
			t.Fatal(why)
		}
	}
	for _, fault := range trial().Lists(sample.WovenMicros()...) {
		t.Error(fault)
	}
}

// TestOthersUnchanged: roots and workers that are handed in are neither changed nor kept, nor is what lies behind their ends.
func TestOthersUnchanged(t *testing.T) {
	for _, start := range [][]uint64{nil, {16}, {24, 0, 16, 24}, {16, 17}} {
		roots := append(make([]uint64, 0, 20), start...)
		rest := roots[len(roots):cap(roots)]
		rest[0] = 77
		got, _ := micro.Make(sample.ThreePairs(), 2, roots...)
		want := sample.CopyMicro(got)
		if !slices.Equal(roots, start) || rest[0] != 77 {
			t.Error("roots:", roots, rest)
		}
		clear(roots)
		rest[0] = 5
		if !same(got, want) {
			t.Error("roots are kept:", got.Grey)
		}
	}
	for _, start := range [][]int{{}, {1}, {1, 0, 1}, {0, 9}} {
		workers := append(make([]int, 0, 20), start...)
		rest := workers[len(workers):cap(workers)]
		rest[0], rest[1] = 77, 77
		micro.Run(seen(), workers...)
		if !slices.Equal(workers, start) || rest[0] != 77 || rest[1] != 77 {
			t.Error("workers:", workers, rest)
		}
	}
}

// TestReaders: what only asks changes nothing.
func TestReaders(t *testing.T) {
	for i, start := range arguments() {
		m, rest := sample.RoomyMicro(start)
		micro.Check(m)
		micro.Done(m)
		micro.Marked(m)
		if !same(m, start) || !rest() {
			t.Error(i, m)
		}
	}
}

// The document's rules

// TestNilIsEmpty: a nil list and an empty one are the same to every call (P1).
func TestNilIsEmpty(t *testing.T) {
	nils := api.Micro{Heap: sample.Heap(1, nil), Marks: make([]uint64, 1), Grey: api.Grey{Queues: [][]uint64{nil, nil, nil}}, Hands: make([]api.MicroHand, 3)}
	empties := sample.CopyMicro(nils)
	empties.Heap.Spans, empties.Grey.Queues[0] = []api.Span{}, []uint64{}
	for name, call := range calls() {
		if a, b := call(nils), call(empties); !a.like(b) {
			t.Error(name, a, b)
		}
	}
	for _, m := range []api.Micro{nils, empties} {
		if l, why := micro.Marked(m); len(l) != 0 || why != api.OK {
			t.Error("Marked of nothing:", l, why)
		}
		if done, why := micro.Done(m); !done || why != api.OK {
			t.Error("Done of nothing:", done, why)
		}
		for _, roots := range [][]uint64{nil, {}, {0}} {
			if got, why := micro.Make(m.Heap, 3, roots...); !same(got, nils) || why != api.OK {
				t.Error("Make from nothing:", why)
			}
		}
		none := m
		none.Marks = nil
		if why := micro.Check(none); why != api.ErrForm {
			t.Error("Check without marks:", why)
		}
		none.Marks = []uint64{}
		if why := micro.Check(none); why != api.ErrForm {
			t.Error("Check without marks:", why)
		}
	}
	all, n, lost, _ := micro.Run(seen())
	if got, k, some, why := micro.Run(seen(), []int{}...); !same(got, all) || k != n || some != lost || why != api.OK {
		t.Error("Run for an empty list:", k, some, why)
	}
}

// TestArgumentsAlone: the same arguments have the same answers, whatever came before and whatever room is behind them (P3).
func TestArgumentsAlone(t *testing.T) {
	for _, fault := range trial().Again() {
		t.Error(fault)
	}
}

// TestAnything: no call panics, and each ends, whatever numbers it is given (P1).
func TestAnything(t *testing.T) {
	p := sample.Picks(319)
	word := func() uint64 {
		return []uint64{0, 1, 16, 17, 20, 24, math.MaxUint64, 1 << 63, p.Word()}[p.Below(9)]
	}
	number := func() int {
		return []int{0, 1, 2, 3, -1, math.MinInt, math.MaxInt, int(p.Word())}[p.Below(8)]
	}
	wrong := 0
	for range 3000 {
		m := seen()
		for range 1 + p.Below(3) {
			hand := &m.Hands[p.Below(2)]
			switch p.Below(9) {
			case 0:
				m.Marks = []uint64{word()}
			case 1:
				m.Marks = make([]uint64, p.Below(4))
			case 2:
				m.Grey.Queues[p.Below(2)] = []uint64{word(), word()}
			case 3:
				hand.Pc = api.MicroPc(word())
			case 4:
				hand.Obj = word()
			case 5:
				hand.Shape = api.Shape{N: number(), Mask: word()}
			case 6:
				hand.Field = number()
			case 7:
				hand.To = word()
			case 8:
				hand.Seen = word()
			}
		}
		no := checked(m)
		if why := micro.Check(m); why != no {
			t.Fatalf("%v: error %d, want %d", m, why, no)
		}
		if no != api.OK {
			wrong++
		}
		for name, call := range calls() {
			if got := call(m); name != "Make" && no != api.OK && !got.like(answer{}) {
				t.Fatal(name, m)
			}
		}
	}
	if wrong < 1000 || wrong > 2900 {
		t.Error(wrong)
	}
}

// TestNoGoroutine: when a call has answered, no goroutine of it is left (P4).
func TestNoGoroutine(t *testing.T) {
	before := runtime.NumGoroutine()
	for _, m := range arguments() {
		for _, call := range calls() {
			call(m)
		}
		micro.Check(m)
		micro.Done(m)
		micro.Marked(m)
	}
	// Fewer are no fault: the goroutine of an earlier test may have ended meanwhile.
	if after := runtime.NumGoroutine(); after > before {
		t.Errorf("%d goroutines, and %d before", after, before)
	}
}
