package grey_test

import (
	"runtime"
	"slices"
	"testing"

	"besom/api"
	"besom/grey"
	"besom/sample"
)

type call func(g api.Grey, addrs []uint64) api.Grey

func some() []uint64 { return []uint64{16, 99, 18} }

// calls are all calls that answer queues, those among them that are refused too.
func calls() map[string]call {
	push := func(worker int, more ...uint64) call {
		return func(g api.Grey, addrs []uint64) api.Grey {
			out, _ := grey.Push(g, worker, slices.Concat(more, addrs)...)
			return out
		}
	}
	pop := func(worker int) call {
		return func(g api.Grey, addrs []uint64) api.Grey {
			out, _, _, _ := grey.Pop(g, worker)
			return out
		}
	}
	return map[string]call{
		"Make": func(g api.Grey, addrs []uint64) api.Grey {
			out, _ := grey.Make(3)
			return out
		},
		"Push":              push(0),
		"Push to an empty":  push(1),
		"Push to the last":  push(2),
		"Push of nothing":   func(g api.Grey, addrs []uint64) api.Grey { return push(2)(g, nil) },
		"Push, no worker":   push(3),
		"Push of 0":         push(0, 1, 0),
		"Push of what is":   push(0, 1, 12),
		"Push, full":        push(0, sample.Rising(100, 16384)...),
		"Pop":               pop(0),
		"Pop of the last":   pop(2),
		"Pop, stolen":       pop(1),
		"Pop, no worker":    pop(-1),
		"Pop of empty ones": func(g api.Grey, addrs []uint64) api.Grey { return pop(0)(sample.Grey(nil, nil), addrs) },
	}
}

// spoil changes all that queues have, and all that lies behind their ends.
func spoil(g api.Grey) {
	for i, q := range g.Queues {
		for k := range q[:cap(q)] {
			q[:cap(q)][k] += 1000
		}
		g.Queues[i] = append(q, 5)
	}
}

// roomy returns queues and addresses in memory that goes on behind them, where a careless append would write to. The rest is what lies there.
func roomy(g api.Grey, addrs []uint64) (out api.Grey, more []uint64, rest func() bool) {
	var queues, roomier [][]uint64
	for _, q := range g.Queues {
		long := append(slices.Clone(q), 77)
		roomier = append(roomier, long)
		queues = append(queues, long[:len(q)])
	}
	n := len(queues)
	queues = append(queues, []uint64{77})
	long := append(slices.Clone(addrs), 77)
	return api.Grey{Queues: queues[:n]}, long[:len(addrs)], func() bool {
		return long[len(addrs)] == 77 && slices.Equal(queues[n], []uint64{77}) && !slices.ContainsFunc(roomier, func(q []uint64) bool {
			return q[len(q)-1] != 77
		})
	}
}

// 12.3

func TestNewMemory(t *testing.T) {
	for name, call := range calls() {
		g, l, rest := roomy(chapter(), some())
		first := call(g, l)
		if !same(g, chapter()) || !slices.Equal(l, some()) || !rest() {
			t.Error(name, "changes an argument")
		}
		second := call(g, l)
		if len(second.Queues) == 0 {
			t.Error(name, "answers nothing")
		}
		kept := sample.CopyGrey(second)
		spoil(first)
		if !same(g, chapter()) || !slices.Equal(l, some()) || !rest() {
			t.Error(name, "answers an argument's memory")
		}
		if !same(second, kept) {
			t.Error(name, "answers the same memory twice")
		}
		spoil(g)
		clear(l)
		if !same(second, kept) {
			t.Error(name, "keeps an argument's memory")
		}
	}
}

// TestQueuesApart: no two queues of an answer share memory, not even behind their ends, whether or not those of the argument do.
func TestQueuesApart(t *testing.T) {
	for name, call := range calls() {
		line := sample.Rising(1, 9)
		shared := api.Grey{Queues: [][]uint64{line[:3], line[3:3], line[3:]}}
		for _, g := range []api.Grey{chapter(), shared} {
			out := call(g, some())
			for i, q := range out.Queues {
				kept := sample.CopyGrey(out)
				spoil(api.Grey{Queues: [][]uint64{q}})
				kept.Queues[i] = q
				if !same(out, kept) {
					t.Error(name, "answers two queues that share memory")
				}
			}
		}
		if !slices.Equal(line, sample.Rising(1, 9)) {
			t.Error(name, "answers memory of queues that share it")
		}
	}
}

func TestReadersChangeNothing(t *testing.T) {
	g, _, rest := roomy(chapter(), nil)
	grey.Check(g)
	grey.Many(g)
	if !same(g, chapter()) || !rest() {
		t.Error(g)
	}
}

// The document's rules

// TestNilIsEmpty: a nil list and an empty one are the same to every call (P1).
func TestNilIsEmpty(t *testing.T) {
	for _, queues := range [][][]uint64{nil, {}, make([][]uint64, 0, 4)} {
		if why := grey.Check(api.Grey{Queues: queues}); why != api.ErrForm {
			t.Error("Check of no queues:", why)
		}
	}
	for _, q := range [][]uint64{nil, {}, make([]uint64, 0, 8)} {
		g := api.Grey{Queues: [][]uint64{q, nil}}
		none := sample.Grey(nil, nil)
		if why := grey.Check(g); why != api.OK {
			t.Error("Check:", why)
		}
		if n, why := grey.Many(g); n != 0 || why != api.OK {
			t.Error("Many:", n, why)
		}
		for worker := range 2 {
			if out, why := grey.Push(g, worker, q...); !same(out, none) || why != api.OK {
				t.Error("Push of nothing:", out, why)
			}
			if out, why := grey.Push(g, worker, 16); len(out.Queues) != 2 || !slices.Equal(out.Queues[worker], []uint64{16}) || why != api.OK {
				t.Error("Push:", out, why)
			}
			if out, addr, stolen, why := grey.Pop(g, worker); !same(out, none) || addr != 0 || stolen || why != api.ErrNone {
				t.Error("Pop:", out, addr, stolen, why)
			}
		}
		one := api.Grey{Queues: [][]uint64{q, {16}}}
		if out, addr, stolen, why := grey.Pop(one, 0); !same(out, none) || addr != 16 || !stolen || why != api.OK {
			t.Error("Pop of one:", out, addr, stolen, why)
		}
	}
}

// TestRight: from valid queues every call makes valid ones, with an error, too.
func TestRight(t *testing.T) {
	for name, call := range calls() {
		if out := call(chapter(), some()); !valid(out) || grey.Check(out) != api.OK {
			t.Error(name, out)
		}
	}
}

// TestArgumentsAlone: the same arguments have the same answers, whatever came before and whatever room is behind them (P3).
func TestArgumentsAlone(t *testing.T) {
	for name, call := range calls() {
		want := call(chapter(), some())
		g, l, _ := roomy(chapter(), some())
		if got := call(g, l); !same(got, want) {
			t.Error(name, "of roomy queues:", got, want)
		}
		if got := call(chapter(), some()); !same(got, want) {
			t.Error(name, "once more:", got, want)
		}
	}
}

// TestNoGoroutine: when a call has answered, no goroutine of it is left (P4).
func TestNoGoroutine(t *testing.T) {
	before := runtime.NumGoroutine()
	for _, call := range calls() {
		call(chapter(), some())
	}
	grey.Check(chapter())
	grey.Many(chapter())
	// Fewer are no fault: the goroutine of an earlier test may have ended meanwhile.
	if after := runtime.NumGoroutine(); after > before {
		t.Errorf("%d goroutines, and %d before", after, before)
	}
}
