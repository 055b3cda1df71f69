package mut_test

import (
	"slices"
	"testing"

	"besom/api"
	"besom/class"
	"besom/model"
	"besom/mut"
	"besom/sample"
	"besom/sched"
)

// act lets a pick happen.
func act(r api.Runtime, pick api.Pick) (api.Runtime, api.Heard, api.Errno) {
	if pick.Mutator {
		r, reg, why := mut.Do(r, pick.Who, pick.Op)
		return r, api.Heard{Reg: reg}, why
	}
	r, ran, why := sched.Do(r, pick.Task)
	return r, api.Heard{Ran: ran}, why
}

// 19.4

// TestRight: every function answers a valid runtime if it was given one, whatever mutators and the collector did before.
func TestRight(t *testing.T) {
	p := sample.Picks(141)
	counts := map[api.OpKind]int{}
	for i, r := range runtimes(250) {
		for range 80 {
			pick := sample.SomePick(&p, r, p.Word())
			got, _, why := act(r, pick)
			if sched.Check(got) != api.OK {
				t.Fatalf("runtime %d: after %v, it is not valid", i, pick)
			}
			if why == api.OK && pick.Mutator {
				counts[pick.Op.Kind]++
			}
			r = got
		}
		if got, _ := mut.Force(r); sched.Check(got) != api.OK {
			t.Fatalf("runtime %d: after Force, it is not valid", i)
		}
	}
	for _, kind := range sample.OpKinds() {
		if counts[kind] < 15 {
			t.Error(kind, counts[kind])
		}
	}
}

// 19.5 and 19.7

// TestStory: what is loaded is what was stored last, and a weak handle refers to its object, or for ever to nothing, once that was not reachable, whatever the collector does meanwhile.
func TestStory(t *testing.T) {
	p := sample.Picks(142)
	loaded, handles, gone, forced := 0, 0, 0, 0
	for i := range 60 {
		r, _ := sched.Make(3+i%5, 1+i%4, 1+i%3)
		s := sample.NewStory(len(r.Mutators))
		for k := range 400 {
			pick := sample.SomePick(&p, r, uint64(2*k+p.Below(2)))
			got, heard, why := act(r, pick)
			if why != api.OK {
				if !same(got, r) {
					t.Fatalf("runtime %d, step %d: %v is refused, and something changes", i, k, pick)
				}
				continue
			}
			if fault := s.Tell(pick, got, heard); fault != "" {
				t.Fatalf("runtime %d, step %d, %v: %s", i, k, pick, fault)
			}
			if pick.Mutator && pick.Op.Kind == api.OpLoad {
				loaded++
			}
			if pick.Mutator && pick.Op.Kind == api.OpNew && r.Gc.Phase != api.PhaseSweep && len(got.Gc.Marker.Heap.Spans) < len(r.Gc.Marker.Heap.Spans) {
				forced++
			}
			r = got
		}
		all, none := s.Gone()
		handles, gone = handles+all, gone+none
	}
	if loaded < 500 || handles < 200 || gone < 50 || forced < 5 {
		t.Error(loaded, handles, gone, forced)
	}
}

// 19.6

// room reports whether there is a slot, or free pages, for a shape.
func room(h api.Heap, s api.Shape) bool {
	n, _ := class.Pages(s.N + 1)
	c, why := class.Of(s.N + 1)
	if why == api.OK {
		size, _ := class.Size(c)
		for _, x := range h.Spans {
			if x.Size == size && x.Swept && slices.ContainsFunc(x.Alloc.W, func(w uint64) bool { return w != 1<<x.Alloc.N-1 }) {
				return true
			}
		}
	}
	free := 0
	for page := range h.Pages.Used.N {
		free++
		if h.Pages.Used.W[page/64]>>(page%64)&1 == 1 {
			free = 0
		}
		if free == n {
			return len(h.Spans) < 256
		}
	}
	return false
}

// TestRoom: OpNew is refused for want of room only if there is none after a forced collection, in which nothing is left but what is kept, or if that one fails.
func TestRoom(t *testing.T) {
	p := sample.Picks(143)
	full, failed, made := 0, 0, 0
	for i, r := range runtimes(400) {
		for range 6 {
			op := api.Op{Kind: api.OpNew, A: p.Below(4), Shape: sample.SomeShape(&p)}
			got, reg, why := mut.Do(r, 0, op)
			if why == api.OK {
				made++
				if o := find(&got, reg.W); o.N != op.Shape.N || o.Mask != op.Shape.Mask {
					t.Fatalf("runtime %d, %v: %v", i, op, o)
				}
				r = got
				continue
			}
			after, no := mut.Force(r)
			if why != api.ErrFull || !same(got, r) {
				t.Fatalf("runtime %d, %v: error %d", i, op, why)
			}
			if no != api.OK {
				failed++
				break
			}
			full++
			roots, _ := sched.Roots(after)
			for _, item := range after.Gc.Queue {
				roots = append(roots, item.Addr)
			}
			// What was kept for finalizers waits with them.
			kept, _ := model.Reach(after.Gc.Marker.Heap, roots, after.Gc.Table)
			if room(after.Gc.Marker.Heap, op.Shape) || !slices.Equal(kept, sample.Addrs(after.Gc.Marker.Heap)) {
				t.Fatalf("runtime %d, %v: there is room, or might be", i, op)
			}
		}
	}
	if full < 50 || failed < 10 || made < 500 {
		t.Error(full, failed, made)
	}
}
