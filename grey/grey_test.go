package grey_test

import (
	"math"
	"testing"

	"besom/api"
	"besom/grey"
	"besom/sample"
)

// TestSampleIsValid: the queues of the sample are what they are said to be, by the chapter's words.
func TestSampleIsValid(t *testing.T) {
	for i, g := range sample.Greys() {
		if !valid(g) {
			t.Errorf("queues %d are not valid", i)
		}
	}
	for i, g := range sample.BadGreys() {
		if valid(g) {
			t.Errorf("invalid queues %d are valid", i)
		}
	}
}

// 12.1

func TestCheck(t *testing.T) {
	for i, g := range sample.Greys() {
		if why := grey.Check(g); why != api.OK {
			t.Errorf("Check of queues %d: error %d", i, why)
		}
	}
	for i, g := range sample.BadGreys() {
		if why := grey.Check(g); why != api.ErrForm {
			t.Errorf("Check of invalid queues %d: error %d", i, why)
		}
	}
}

// TestCheckOne: whatever one address in a queue is replaced by, Check answers what the chapter's words say.
func TestCheckOne(t *testing.T) {
	for _, g := range sample.Greys() {
		g = sample.CopyGrey(g)
		in := all(g)
		if len(in) > 300 {
			continue
		}
		for _, q := range g.Queues {
			for i, was := range q {
				for _, addr := range append([]uint64{0, 77, 1 << 63, math.MaxUint64}, in...) {
					q[i] = addr
					if why := grey.Check(g); (why == api.OK) != valid(g) || why != api.OK && why != api.ErrForm {
						t.Fatalf("Check of %d: error %d", g, why)
					}
					q[i] = was
				}
			}
		}
	}
}

func TestInvalidComesFirst(t *testing.T) {
	for i, g := range sample.BadGreys() {
		refused := func(name string, zero bool, why api.Errno) {
			t.Helper()
			if !zero || why != api.ErrForm {
				t.Errorf("%s of invalid queues %d: error %d", name, i, why)
			}
		}
		n, why := grey.Many(g)
		refused("Many", n == 0, why)
		for _, worker := range workers() {
			for _, l := range [][]uint64{nil, {0}, {16}, {50000}} {
				out, why := grey.Push(g, worker, l...)
				refused("Push", len(out.Queues) == 0, why)
			}
			out, addr, stolen, why := grey.Pop(g, worker)
			refused("Pop", len(out.Queues) == 0 && addr == 0 && !stolen, why)
		}
	}
}

func TestMake(t *testing.T) {
	for _, n := range workers() {
		g, why := grey.Make(n)
		if n >= 1 && n <= 4 {
			if !same(g, api.Grey{Queues: make([][]uint64, n)}) || why != api.OK {
				t.Errorf("Make of %d: %d, error %d", n, g, why)
			}
		} else if len(g.Queues) != 0 || why != api.ErrRange {
			t.Errorf("Make of %d: %d, error %d", n, g, why)
		}
	}
}

func TestMany(t *testing.T) {
	for i, g := range sample.Greys() {
		if n, why := grey.Many(g); n != len(all(g)) || why != api.OK {
			t.Errorf("Many of queues %d: %d, error %d; want %d", i, n, why, len(all(g)))
		}
	}
}

// 12.2

func TestPush(t *testing.T) {
	for i, g := range sample.Greys() {
		in := all(g)
		more := lists()
		if len(in) > 0 {
			last := in[len(in)-1]
			more = append(more, in[:1], []uint64{last}, []uint64{70000, last}, []uint64{70000, 70001, in[len(in)/2], 0})
		}
		for _, worker := range []int{-1, 0, 1, 2, 3, 4, math.MinInt, math.MaxInt} {
			for _, l := range more {
				want, no := pushed(g, worker, l)
				if out, why := grey.Push(g, worker, l...); !same(out, want) || why != no {
					t.Fatalf("Push to queues %d, %d, %d: error %d; want %d", i, worker, l, why, no)
				}
			}
		}
		for _, worker := range workers() {
			want, no := pushed(g, worker, nil)
			if out, why := grey.Push(g, worker); !same(out, want) || why != no {
				t.Errorf("Push of nothing to queues %d, %d: error %d; want %d", i, worker, why, no)
			}
		}
	}
}

// TestPushFirstError: each address is looked at on its own, those before it counted in; a worker that there is not comes before all.
func TestPushFirstError(t *testing.T) {
	almost := sample.Grey(sample.Rising(100, 16382), nil)
	for _, x := range []struct {
		worker int
		addrs  []uint64
		want   api.Errno
	}{
		{0, []uint64{1, 2}, api.OK},
		{1, []uint64{1, 2}, api.OK},
		{1, []uint64{1, 2, 3}, api.ErrFull},
		{1, []uint64{1, 2, 3, 0}, api.ErrFull},
		{1, []uint64{1, 2, 0}, api.ErrNil},
		{1, []uint64{1, 2, 2}, api.ErrTwice},
		{1, []uint64{1, 2, 100}, api.ErrTwice},
		{1, []uint64{1, 0, 1, 2, 3}, api.ErrNil},
		{1, []uint64{0, 100}, api.ErrNil},
		{1, []uint64{100, 0}, api.ErrTwice},
		{1, []uint64{1, 1, 0}, api.ErrTwice},
		{2, []uint64{0}, api.ErrTask},
		{-1, []uint64{100}, api.ErrTask},
		{2, []uint64{1, 2, 3}, api.ErrTask},
		{2, nil, api.ErrTask},
	} {
		want := almost
		if x.want == api.OK {
			want = sample.CopyGrey(almost)
			want.Queues[x.worker] = append(want.Queues[x.worker], x.addrs...)
		}
		if out, why := grey.Push(almost, x.worker, x.addrs...); !same(out, want) || why != x.want {
			t.Errorf("Push of %d with worker %d: error %d; want %d", x.addrs, x.worker, why, x.want)
		}
	}
}

// TestPushAll: as many addresses as there may be are pushed at once, and not one more.
func TestPushAll(t *testing.T) {
	for n := 1; n <= 4; n++ {
		g, _ := grey.Make(n)
		if out, why := grey.Push(g, n-1, sample.Rising(1, 16385)...); !same(out, g) || why != api.ErrFull {
			t.Errorf("Push of 16385 to %d: error %d", n, why)
		}
		full, why := grey.Push(g, n-1, sample.Rising(1, 16384)...)
		if many, _ := grey.Many(full); many != 16384 || why != api.OK {
			t.Errorf("Push of 16384 to %d: %d, error %d", n, many, why)
		}
		if out, why := grey.Push(full, 0, 16385); !same(out, full) || why != api.ErrFull {
			t.Errorf("Push of one more to %d: error %d", n, why)
		}
		less, _, _, _ := grey.Pop(full, 0)
		if out, why := grey.Push(less, 0, 16385); len(all(out)) != 16384 || why != api.OK {
			t.Errorf("Push instead of one that was popped to %d: error %d", n, why)
		}
	}
}

func TestPop(t *testing.T) {
	for i, g := range sample.Greys() {
		for _, worker := range workers() {
			want, addr, stolen, no := popped(g, worker)
			if out, a, s, why := grey.Pop(g, worker); !same(out, want) || a != addr || s != stolen || why != no {
				t.Errorf("Pop of queues %d, %d: %d, %v, error %d; want %d, %v, %d", i, worker, a, s, why, addr, stolen, no)
			}
		}
	}
}

// TestSteal: the first address of the longest queue is stolen, of that with the smallest number if several are longest.
func TestSteal(t *testing.T) {
	for _, x := range []struct {
		g      api.Grey
		worker int
		want   uint64
	}{
		{sample.Grey(nil, []uint64{1}, []uint64{2}, []uint64{3}), 0, 1},
		{sample.Grey([]uint64{1}, []uint64{2}, []uint64{3}, nil), 3, 1},
		{sample.Grey([]uint64{1}, nil, []uint64{2, 3}, []uint64{4}), 1, 2},
		{sample.Grey([]uint64{1}, nil, []uint64{2, 3}, []uint64{5, 4}), 1, 2},
		{sample.Grey([]uint64{1}, nil, []uint64{2, 3}, []uint64{6, 4, 5}), 1, 6},
		{sample.Grey([]uint64{9, 8, 7}, []uint64{6, 5, 4}, nil, []uint64{3}), 2, 9},
		{sample.Grey([]uint64{9, 8}, []uint64{6, 5, 4}, nil, []uint64{3, 1, 2}), 2, 6},
	} {
		if _, addr, stolen, why := grey.Pop(x.g, x.worker); addr != x.want || !stolen || why != api.OK {
			t.Errorf("Pop of %d with worker %d: %d, %v, error %d; want %d", x.g, x.worker, addr, stolen, why, x.want)
		}
	}
}

// Examples

// TestChapterExamples are those of 12.1 and 12.2.
func TestChapterExamples(t *testing.T) {
	g, why := grey.Make(3)
	if len(g.Queues) != 3 || why != api.OK {
		t.Fatal("Make:", g, why)
	}
	g, why = grey.Push(g, 0, 2, 4, 6)
	g, no := grey.Push(g, 2, 8, 10, 12)
	if !same(g, chapter()) || why != api.OK || no != api.OK {
		t.Fatal("Push:", g, why, no)
	}
	if n, why := grey.Many(g); n != 6 || why != api.OK {
		t.Error("Many:", n, why)
	}
	for _, x := range []struct {
		worker int
		addrs  []uint64
		want   api.Errno
	}{{3, []uint64{20}, api.ErrTask}, {-1, []uint64{20}, api.ErrTask}, {0, []uint64{2, 2}, api.ErrTwice}, {1, []uint64{22, 22}, api.ErrTwice}, {0, []uint64{0}, api.ErrNil}} {
		if out, why := grey.Push(g, x.worker, x.addrs...); !same(out, g) || why != x.want {
			t.Errorf("Push of %d with worker %d: %d, error %d; want %d", x.addrs, x.worker, out, why, x.want)
		}
	}
	pops(t, g, []pop{{0, 6, false}, {1, 8, true}, {1, 2, true}, {0, 4, false}, {0, 10, true}, {2, 12, false}})
}

// TestTwoWorkers is the example at the end of the chapter.
func TestTwoWorkers(t *testing.T) {
	g, _ := grey.Make(2)
	g, why := grey.Push(g, 0, 16, 18)
	if why != api.OK {
		t.Error("Push:", why)
	}
	pops(t, g, []pop{{1, 16, true}, {0, 18, false}})
}

type pop struct {
	worker int
	addr   uint64
	stolen bool
}

// pops tests that these are popped one after the other, and nothing is left then.
func pops(t *testing.T, g api.Grey, want []pop) {
	t.Helper()
	for _, x := range want {
		out, addr, stolen, why := grey.Pop(g, x.worker)
		if addr != x.addr || stolen != x.stolen || why != api.OK {
			t.Errorf("Pop with worker %d: %d, %v, error %d; want %d, %v", x.worker, addr, stolen, why, x.addr, x.stolen)
		}
		g = out
	}
	for worker := range g.Queues {
		if out, addr, stolen, why := grey.Pop(g, worker); !same(out, g) || addr != 0 || stolen || why != api.ErrNone {
			t.Errorf("Pop of empty queues with worker %d: %d, %v, error %d", worker, addr, stolen, why)
		}
	}
	if n, why := grey.Many(g); n != 0 || why != api.OK {
		t.Error("Many of empty queues:", n, why)
	}
}

// 12.4

// TestEachOnce: whoever pushes and pops, and whenever, every address that was pushed is popped once, and all queues are empty then.
func TestEachOnce(t *testing.T) {
	for seed := range 60 {
		p := sample.Picks(seed)
		n := 1 + seed%4
		g, _ := grey.Make(n)
		times := map[uint64]int{}
		waiting := 0
		for range 300 {
			if p.Below(5) < 2 {
				l := fresh(&p, times)
				out, why := grey.Push(g, p.Below(n), l...)
				if why != api.OK {
					t.Fatalf("Push of %d to %d: error %d", l, g, why)
				}
				g, waiting = out, waiting+len(l)
			} else {
				g, waiting = popOne(t, g, p.Below(n), times, waiting)
			}
		}
		for waiting > 0 {
			g, waiting = popOne(t, g, p.Below(n), times, waiting)
		}
		if !same(g, api.Grey{Queues: make([][]uint64, n)}) {
			t.Fatalf("not empty: %d", g)
		}
		for addr, left := range times {
			if left != 0 {
				t.Fatalf("%d was not popped", addr)
			}
		}
	}
}

// fresh returns up to three addresses that were never pushed before, and notes that they are.
func fresh(p *sample.Picks, times map[uint64]int) []uint64 {
	var l []uint64
	for range p.Below(4) {
		addr := p.Word() | 1
		if _, before := times[addr]; !before {
			times[addr]++
			l = append(l, addr)
		}
	}
	return l
}

// popOne pops with a worker, if something waits, and notes what.
func popOne(t *testing.T, g api.Grey, worker int, times map[uint64]int, waiting int) (api.Grey, int) {
	out, addr, stolen, why := grey.Pop(g, worker)
	want, a, s, no := popped(g, worker)
	if !same(out, want) || addr != a || stolen != s || why != no {
		t.Fatalf("Pop of %d with worker %d: %d, %v, error %d; want %d, %v, %d", g, worker, addr, stolen, why, a, s, no)
	}
	if why != api.OK {
		return out, waiting
	}
	times[addr]--
	if times[addr] != 0 || !valid(out) || grey.Check(out) != api.OK {
		t.Fatalf("Pop of %d with worker %d: %d", g, worker, addr)
	}
	return out, waiting - 1
}

// TestLongQueues: a thousand addresses in two of four queues are popped once each by all workers in turn.
func TestLongQueues(t *testing.T) {
	g := sample.Grey(nil, sample.Rising(1, 700), nil, sample.Rising(1001, 300))
	times := map[uint64]int{}
	for _, addr := range all(g) {
		times[addr]++
	}
	waiting := 1000
	for i := range 1000 {
		g, waiting = popOne(t, g, i%4, times, waiting)
	}
	if waiting != 0 || len(all(g)) != 0 {
		t.Error(waiting, g)
	}
}
