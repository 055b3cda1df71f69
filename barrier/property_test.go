package barrier_test

import (
	"testing"

	"besom/api"
	"besom/barrier"
	"besom/sample"
)

// walk calls functions on a marker, one after the other, as it comes, and hands what each of them answers to visit.
func walk(p *sample.Picks, m api.Marker, steps int, visit func(before, after api.Marker, what string)) {
	for range steps {
		after, what := some(p, m)
		visit(m, after, what)
		m = after
		if p.Below(4) == 0 {
			m = examined(p, m)
		}
	}
}

// some calls one of the functions.
func some(p *sample.Picks, m api.Marker) (api.Marker, string) {
	var out api.Marker
	worker := p.Below(len(m.Hands)+1) - p.Below(20)/19
	pick := func() uint64 {
		l := sample.Objects(m.Heap)
		if len(l) == 0 || p.Below(9) == 0 {
			return 0
		}
		return l[p.Below(len(l))].Addr
	}
	switch k := p.Below(20); {
	case k == 0:
		out, _ = barrier.Start(m)
		return out, "Start"
	case k == 1:
		out, _ = barrier.Stop(m)
		return out, "Stop"
	case k < 5:
		out, _, _ = barrier.Shade(m, worker, pick(), pick())
		return out, "Shade"
	case k < 8:
		n := p.Below(9)
		out, _, _ = barrier.New(m, api.Shape{N: n, Mask: p.Word() & (1<<n - 1)})
		return out, "New"
	}
	addr := pick()
	field := p.Below(max(fieldsOf(m, addr), 0) + 1)
	ref := p.Below(4) > 0
	for _, o := range sample.Objects(m.Heap) {
		if o.Addr == addr && p.Below(9) > 0 {
			ref = o.Mask>>field&1 == 1
		}
	}
	out, _ = barrier.Write(m, worker, addr, field, pick(), ref)
	return out, "Write"
}

// examined looks through an object of a queue or a hand, all of it or a part, as a worker does in many steps.
func examined(p *sample.Picks, m api.Marker) api.Marker {
	out := sample.CopyMarker(m)
	worker := p.Below(len(m.Hands))
	hand, queue := &out.Hands[worker], &out.Grey.Queues[worker]
	if hand.Obj == 0 && len(*queue) > 0 {
		hand.Obj = (*queue)[0]
		*queue = (*queue)[1:]
	}
	for _, o := range sample.Objects(out.Heap) {
		if o.Addr != hand.Obj {
			continue
		}
		to := hand.Field + p.Below(o.N-hand.Field+1)
		for i := hand.Field; i < to; i++ {
			if o.Mask>>i&1 == 1 {
				out, _ = shadow(out, worker, o.Fields[i])
			}
		}
		out.Hands[worker].Field = to
		if to == o.N {
			out.Hands[worker] = api.Hand{}
		}
	}
	return out
}

// 13.4

// TestRight: every function answers a valid marker if it was given one, however they follow one another.
func TestRight(t *testing.T) {
	p := sample.Picks(21)
	calls := map[string]int{}
	for i, m := range markers(40) {
		walk(&p, m, 40, func(before, after api.Marker, what string) {
			if !valid(after) || barrier.Check(after) != api.OK {
				t.Fatalf("marker %d: %s answers one that is not valid", i, what)
			}
			if !same(before, after) {
				calls[what]++
			}
		})
	}
	for _, what := range []string{"Start", "Stop", "Shade", "New", "Write"} {
		if calls[what] < 10 {
			t.Error(what, calls[what])
		}
	}
}

// 13.5

// TestBlack: while the marker is On, each new object is marked, what is marked stays so, and no black object refers to a white one.
func TestBlack(t *testing.T) {
	p := sample.Picks(22)
	for i, m := range markers(40) {
		walk(&p, m, 40, func(before, after api.Marker, what string) {
			if !before.On || !after.On {
				return
			}
			if !blacksRight(after) {
				t.Fatalf("marker %d: %s makes a black object refer to a white one", i, what)
			}
			for _, addr := range sample.Marked(before.Heap) {
				if !isMarked(after, addr) {
					t.Fatalf("marker %d: after %s, %d is not marked any more", i, what, addr)
				}
			}
			for _, o := range sample.Objects(after.Heap) {
				if fieldsOf(before, o.Addr) < 0 && !isMarked(after, o.Addr) {
					t.Fatalf("marker %d: after %s, the new object at %d is white", i, what, o.Addr)
				}
			}
		})
	}
}

// TestNothingLost: what could be reached when marking began is marked in the end, or can be reached still, whatever was stored meanwhile: each reference that a store takes away is shaded first.
func TestNothingLost(t *testing.T) {
	p := sample.Picks(23)
	for i, m := range markers(60) {
		if !m.On {
			continue
		}
		walk(&p, m, 25, func(before, after api.Marker, what string) {
			if !before.On || !after.On {
				return
			}
			for _, o := range sample.Objects(before.Heap) {
				for k, w := range o.Fields {
					if o.Mask>>k&1 == 1 && w != 0 && after.Heap.Arena.Words[o.Addr+1+uint64(k)] != w && !isMarked(after, w) {
						t.Fatalf("marker %d: %s takes away a reference to %d, which is white", i, what, w)
					}
				}
			}
		})
	}
}
