package sched_test

import (
	"slices"
	"testing"

	"besom/api"
	"besom/barrier"
	"besom/model"
	"besom/reach"
	"besom/sample"
	"besom/sched"
	"besom/special"
	"besom/sweep"
)

// 18.5

// TestRight: every function answers a valid runtime if it was given one, whatever tasks and mutators did before.
func TestRight(t *testing.T) {
	p := sample.Picks(121)
	counts := map[api.TaskKind]int{}
	for i, r := range runtimes(120) {
		for range 60 {
			task := someTask(&p, r)
			got, _, why := sched.Do(r, task)
			if !valid(got) || sched.Check(got) != api.OK {
				t.Fatalf("runtime %d: after %v, it is not valid", i, task)
			}
			if why == api.OK {
				counts[task.Kind]++
			}
			r = between(&p, got)
		}
		if got, _, _ := sched.Cycle(r); !valid(got) {
			t.Fatalf("runtime %d: after Cycle, it is not valid", i)
		}
	}
	for kind := api.TaskStart; kind < api.TaskCount; kind++ {
		if counts[kind] < 100 {
			t.Error(kind, counts[kind])
		}
	}
}

// someTask is a task, most often one that is possible.
func someTask(p *sample.Picks, r api.Runtime) api.Task {
	if p.Below(6) == 0 {
		l := tasks()
		return l[p.Below(len(l))]
	}
	// There always is one: where the queue stands in the way of all others, something waits to be run.
	l, _ := sched.Tasks(r)
	return l[p.Below(len(l))]
}

// between does what mutators do between the tasks: they load, store, allocate, and add specials. What comes of it is valid.
func between(p *sample.Picks, r api.Runtime) api.Runtime {
	r = sample.CopyRuntime(r)
	objects := append(sample.Addrs(r.Gc.Marker.Heap), 0)
	addr, reg := objects[p.Below(len(objects))], &r.Mutators[p.Below(len(r.Mutators))].Regs[p.Below(4)]
	switch p.Below(8) {
	case 0:
		if r.Gc.Marker.On {
			r.Gc.Marker, _, _ = barrier.Shade(r.Gc.Marker, 0, addr)
		}
		*reg = sample.Ref(addr)
	case 1:
		*reg = sample.Num(addr)
	case 2:
		g, made, why := sweep.Alloc(r.Gc, api.Shape{N: 1 + p.Below(6), Mask: 1})
		if why == api.OK {
			r.Gc, *reg = g, sample.Ref(made)
		}
	case 3:
		r.Gc.Marker, _ = barrier.Write(r.Gc.Marker, 0, addr, p.Below(3), objects[p.Below(len(objects))], true)
	case 4:
		room, _ := reach.Room(r.Gc)
		if addr > 0 && room > 0 {
			if r.Gc.Marker.On {
				r.Gc.Marker, _, _ = barrier.Shade(r.Gc.Marker, 0, addr)
			}
			r.Gc.Specials, _ = special.Add(r.Gc.Specials, api.Special{Addr: addr, Kind: 1 + api.SpecialKind(p.Below(2)), Tag: p.Word()})
		}
	}
	return r
}

// 18.6

// reachable are the objects that registers and items lead to, as they are.
func reachable(t *testing.T, r api.Runtime) []sample.Object {
	t.Helper()
	roots, why := sched.Roots(r)
	addrs, no := model.Reach(r.Gc.Marker.Heap, append(roots, itemAddrs(r)...), r.Gc.Table)
	if why != api.OK || no != api.OK {
		t.Fatal(why, no)
	}
	return slices.DeleteFunc(sample.Objects(r.Gc.Marker.Heap), func(o sample.Object) bool {
		return !slices.Contains(addrs, o.Addr)
	})
}

func itemAddrs(r api.Runtime) []uint64 {
	var out []uint64
	for _, item := range r.Gc.Queue {
		out = append(out, item.Addr)
	}
	return out
}

// missing are the objects that a runtime has no more, or not as they were.
func missing(r api.Runtime, objects []sample.Object) []sample.Object {
	now := sample.Objects(r.Gc.Marker.Heap)
	return slices.DeleteFunc(slices.Clone(objects), func(o sample.Object) bool {
		return slices.ContainsFunc(now, func(x sample.Object) bool {
			return x.Addr == o.Addr && x.N == o.N && x.Mask == o.Mask && slices.Equal(x.Fields, o.Fields)
		})
	})
}

// even makes the tags of all finalizers even, so that none of them changes a register.
func even(r api.Runtime) api.Runtime {
	r = sample.CopyRuntime(r)
	for i := range r.Gc.Queue {
		r.Gc.Queue[i].Tag &^= 1
	}
	for i := range r.Gc.Specials {
		r.Gc.Specials[i].Tag &^= 1
	}
	return r
}

// TestAnyOrder: whatever tasks follow one another, what was reachable when the collection began is there unchanged when it has ended.
func TestAnyOrder(t *testing.T) {
	p := sample.Picks(122)
	kept, freed := 0, 0
	for i, r := range idles(&p, 300) {
		r = even(r)
		want, before := reachable(t, r), len(sample.Objects(r.Gc.Marker.Heap))
		got := anyOrder(t, &p, r, func(api.Runtime) {})
		if lost := missing(got, want); len(lost) > 0 {
			t.Fatalf("runtime %d: %v is missing", i, lost)
		}
		kept, freed = kept+len(want), freed+before-len(sample.Objects(got.Gc.Marker.Heap))
	}
	if kept < 500 || freed < 200 {
		t.Error(kept, freed)
	}
}

// TestNeverLost: whatever tasks follow one another, what is reachable after each of them is as it was from the beginning, though finalizers bring objects back.
func TestNeverLost(t *testing.T) {
	p := sample.Picks(123)
	back := 0
	for i, r := range idles(&p, 150) {
		first := r.Mutators[0].Regs[0]
		start := r
		got := anyOrder(t, &p, r, func(r api.Runtime) {
			if lost := missing(start, reachable(t, r)); len(lost) > 0 {
				t.Fatalf("runtime %d: %v is not as it was", i, lost)
			}
		})
		if got.Mutators[0].Regs[0] != first {
			back++
		}
	}
	if back < 20 {
		t.Error(back)
	}
}

// anyOrder executes a collection, by tasks as they come, and hands what each of them answers to visit.
func anyOrder(t *testing.T, p *sample.Picks, r api.Runtime, visit func(r api.Runtime)) api.Runtime {
	t.Helper()
	r, _, why := sched.Do(r, api.Task{Kind: api.TaskStart})
	for steps := 0; why == api.OK && r.Gc.Phase != api.PhaseIdle; steps++ {
		if steps > 5000 {
			t.Fatal("there is no end", r)
		}
		visit(r)
		l, no := sched.Tasks(r)
		if len(l) == 0 {
			t.Fatal("there is nothing to do", r, no)
		}
		r, _, why = sched.Do(r, l[p.Below(len(l))])
	}
	if why != api.OK || !valid(r) {
		t.Fatal(why, r)
	}
	return r
}

// 18.7

// TestAsTheModel: after Cycle, exactly the objects exist that the model keeps, unchanged, and what it says is to be run waits. When nothing waits any more, another Cycle does likewise.
func TestAsTheModel(t *testing.T) {
	p := sample.Picks(124)
	freed, items := 0, 0
	for i, r := range idles(&p, 200) {
		for range 2 {
			roots, _ := sched.Roots(r)
			want, why := model.Fate(r.Gc.Marker.Heap, append(roots, itemAddrs(r)...), r.Gc.Table, r.Gc.Specials)
			got, n, no := sched.Cycle(r)
			if why != api.OK || no != api.OK || n < 5 || got.Gc.Phase != api.PhaseIdle {
				t.Fatalf("runtime %d: %d, errors %d, %d", i, n, why, no)
			}
			objects := sample.Objects(got.Gc.Marker.Heap)
			if !slices.Equal(sample.Addrs(got.Gc.Marker.Heap), want.Kept) || len(missing(r, objects)) > 0 {
				t.Fatalf("runtime %d: %d exist, want %d", i, sample.Addrs(got.Gc.Marker.Heap), want.Kept)
			}
			if more := len(got.Gc.Queue) - len(r.Gc.Queue); more != len(want.Finals)+len(want.Cleans) {
				t.Fatalf("runtime %d: %d more items", i, more)
			}
			freed, items = freed+len(sample.Objects(r.Gc.Marker.Heap))-len(objects), items+len(want.Finals)+len(want.Cleans)
			r = got
			r.Gc.Queue = nil
		}
	}
	if freed < 500 || items < 200 {
		t.Error(freed, items)
	}
}
