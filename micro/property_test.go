package micro_test

import (
	"slices"
	"strconv"
	"strings"
	"testing"

	"besom/api"
	"besom/barrier"
	"besom/mark"
	"besom/micro"
	"besom/model"
	"besom/sample"
)

// begun is what Make answers, which is to succeed.
func begun(t *testing.T, h api.Heap, workers int, roots ...uint64) api.Micro {
	t.Helper()
	m, why := micro.Make(h, workers, roots...)
	if why != api.OK {
		t.Fatal(why)
	}
	return m
}

// 27.5

// TestClosure: after Make and Run, exactly what is reachable from the roots is marked, whichever workers executed the steps.
func TestClosure(t *testing.T) {
	p := sample.Picks(311)
	var many int
	for i, h := range sample.SweptHeaps(150) {
		roots := sample.SomeRoots(&p, h)
		want, why := model.Reach(h, roots, api.Ephem{})
		if why != api.OK || !slices.Equal(want, sample.Reachable(h, roots...)) {
			t.Fatal(i, want, why)
		}
		many += len(want)
		m := begun(t, h, 1+i%4, roots...)
		for _, l := range sample.Crews(&p, len(m.Hands)) {
			got, _, _, why := micro.Run(m, l...)
			if why == api.ErrTask {
				continue
			}
			if marked, no := micro.Marked(got); why != api.OK || no != api.OK || !slices.Equal(marked, want) {
				t.Fatalf("heap %d from %d for %d: %d, error %d, %d; want %d", i, roots, l, marked, why, no, want)
			}
			if done, why := micro.Done(got); !done || why != api.OK {
				t.Fatalf("heap %d from %d for %d: not Done, error %d", i, roots, l, why)
			}
		}
	}
	if many < 500 {
		t.Error(many)
	}
}

// TestAlike: what is marked word by word is what is marked field by field (P9).
func TestAlike(t *testing.T) {
	p := sample.Picks(312)
	for i, h := range sample.SweptHeaps(60) {
		roots := sample.SomeRoots(&p, h)
		b, _ := barrier.Make(h, 1+i%4)
		b, _ = barrier.Start(b)
		b, _, _ = barrier.Shade(b, 0, roots...)
		b, _, why := mark.Run(b)
		want, no := mark.Marks(b)
		if why != api.OK || no != api.OK {
			t.Fatal(why, no)
		}
		m, _, _, why := micro.Run(begun(t, h, 1+i/4%4, roots...))
		if got, no := micro.Marked(m); !slices.Equal(got, want) || why != api.OK || no != api.OK {
			t.Errorf("heap %d from %d: %d, and %d", i, roots, got, want)
		}
	}
}

// TestHeapStays: marking changes nothing in the heap.
func TestHeapStays(t *testing.T) {
	p := sample.Picks(313)
	for i, h := range sample.SweptHeaps(40) {
		m, _, _, why := micro.Run(begun(t, h, 1+i%4, sample.SomeRoots(&p, h)...))
		if !sample.SameHeaps(m.Heap, h) || why != api.OK {
			t.Errorf("heap %d: error %d", i, why)
		}
	}
}

// 27.6

// pushes are how often each object was pushed, and how many swaps succeeded and failed.
type pushes struct {
	of          map[uint64]int
	swaps, lost int
}

// execute executes a step, if there is one, and counts.
func (c *pushes) execute(t *testing.T, m api.Micro, worker int) api.Micro {
	t.Helper()
	hand := m.Hands[worker]
	m, access, why := micro.Step(m, worker)
	if why == api.ErrNone {
		return m
	}
	switch {
	case why != api.OK:
		t.Fatal(why)
	case access == api.AccessSwap:
		c.swaps++
	case access == api.AccessLost:
		c.lost++
	case access == api.AccessQueue && hand.Pc == api.MicroPush:
		c.of[hand.To]++
	}
	return m
}

// once reports whether each marked object was pushed once: the roots by Make, and the others after a swap.
func (c *pushes) once(m api.Micro, roots []uint64) bool {
	marked := sample.Reachable(m.Heap, roots...)
	if !slices.Equal(markedOf(m), marked) {
		return false
	}
	others := 0
	for _, addr := range marked {
		want := 1
		if slices.Contains(roots, addr) {
			want = 0
		}
		if c.of[addr] != want {
			return false
		}
		others += want
	}
	return len(c.of) == others && c.swaps == others
}

// TestOnce: each marked object is pushed once, whatever workers execute which steps in which order.
func TestOnce(t *testing.T) {
	p := sample.Picks(314)
	lost := 0
	for i, h := range append(sample.SweptHeaps(60), crowds(&p, 200)...) {
		roots := sample.SomeRoots(&p, h)
		for workers := 1; workers <= 4; workers++ {
			c := pushes{of: map[uint64]int{}}
			m := begun(t, h, workers, roots...)
			for left(m) {
				m = c.execute(t, m, p.Below(workers))
			}
			if !c.once(m, roots) {
				t.Fatalf("heap %d from %d, %d workers: %v, %d swaps", i, roots, workers, c.of, c.swaps)
			}
			lost += c.lost
		}
	}
	if lost < 300 {
		t.Error(lost)
	}
}

// key tells values with the same heap apart.
func key(m api.Micro) string {
	var out strings.Builder
	word := func(w uint64) { out.WriteString(strconv.FormatUint(w, 36) + " ") }
	for _, w := range m.Marks {
		word(w)
	}
	for _, q := range m.Grey.Queues {
		out.WriteString("; ")
		for _, addr := range q {
			word(addr)
		}
	}
	for _, hand := range m.Hands {
		out.WriteString("; ")
		word(uint64(hand.Pc))
		word(hand.Obj)
		word(uint64(hand.Field))
		word(hand.To)
		word(hand.Seen)
	}
	return out.String()
}

// TestEveryOrder: in each of the orders in which two or three workers may execute their steps, exactly what is reachable is marked in the end, and each object is pushed once.
func TestEveryOrder(t *testing.T) {
	ring := sample.Heap(3, []api.Span{sample.Span(1, 1, 2, 15, 0)},
		sample.Object{Addr: 16, N: 1, Mask: 1, Fields: []uint64{20}}, sample.Object{Addr: 18, N: 1, Mask: 1, Fields: []uint64{22}},
		sample.Object{Addr: 20, N: 1, Mask: 1, Fields: []uint64{22}}, sample.Object{Addr: 22, N: 1, Mask: 1, Fields: []uint64{20}})
	for i, x := range []struct {
		h       api.Heap
		workers int
		roots   []uint64
	}{{sample.ThreePairs(), 2, []uint64{16, 20}}, {sample.ThreePairs(), 3, []uint64{16, 20}}, {ring, 2, []uint64{16, 18}}, {ring, 3, []uint64{18, 16}}} {
		start := begun(t, x.h, x.workers, x.roots...)
		var ends, lost int
		seen := map[string]bool{}
		// What was pushed hangs on the way to a value, so that it belongs to its key.
		var visit func(m api.Micro, c pushes)
		visit = func(m api.Micro, c pushes) {
			var counts strings.Builder
			for _, o := range sample.Objects(m.Heap) {
				counts.WriteString(strconv.Itoa(c.of[o.Addr]) + " ")
			}
			k := key(m) + counts.String()
			if seen[k] {
				return
			}
			seen[k] = true
			if !left(m) {
				ends++
				if c.swaps = len(c.of); !c.once(m, x.roots) {
					t.Errorf("heap %d: %v", i, c.of)
				}
			}
			for worker := range m.Hands {
				next := pushes{of: map[uint64]int{}}
				for addr, n := range c.of {
					next.of[addr] = n
				}
				after := next.execute(t, m, worker)
				lost += next.lost
				visit(after, next)
			}
		}
		visit(start, pushes{of: map[uint64]int{}})
		if ends == 0 || len(seen) < 150 || lost == 0 {
			t.Errorf("heap %d: %d values, %d ends, %d lost", i, len(seen), ends, lost)
		}
	}
}
