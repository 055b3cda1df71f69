package scav_test

import (
	"slices"
	"testing"

	"besom/api"
	"besom/heap"
	"besom/sample"
	"besom/scav"
)

// event is something that happens to a value: what was answered (n is how many pages went), and, where the heap is asked, what that answers of the heap alone.
type event struct {
	before, after api.Scav
	what          string
	n             int
	heap          api.Heap
	addrs, alone  []uint64
	why, no       api.Errno
}

// walk lets things happen to a value, one after the other, as it comes, and hands each of them to visit.
func walk(p *sample.Picks, s api.Scav, steps int, visit func(e event)) {
	for range steps {
		e := event{before: s, heap: s.Heap}
		switch p.Below(10) {
		case 0, 1:
			e.what = "Release"
			e.after, e.n, e.why = scav.Release(s, p.Below(7)-1)
			e.no = e.why
		case 2:
			e.what = "Keep"
			e.after, e.n, e.why = scav.Keep(s, p.Below(2+s.Out.N)-1)
			e.no = e.why
		case 3, 4:
			e.what = "Clean"
			first := p.Below(s.Out.N)
			e.after, e.addrs, e.why = scav.Clean(s, first)
			e.heap, e.alone, e.no = heap.Clean(s.Heap, first)
		case 5:
			e.what = "Turn"
			e.after = s
			e.after.Heap = marked(p, s.Heap)
			e.heap = e.after.Heap
		default:
			e.what = "New"
			shape, black := sample.SomeShape(p), p.Below(2) == 0
			var addr, alone uint64
			e.after, addr, e.why = scav.New(s, shape, black)
			e.heap, alone, e.no = heap.New(s.Heap, shape, black)
			e.addrs, e.alone = []uint64{addr}, []uint64{alone}
		}
		visit(e)
		s = e.after
	}
}

// marked is a heap some of whose objects are marked, with what they lead to, and of which these alone are current. A heap that is being swept stays as it is.
func marked(p *sample.Picks, h api.Heap) api.Heap {
	clear, why := heap.Unmark(h)
	if why != api.OK {
		return h
	}
	for _, addr := range sample.Addrs(clear) {
		if p.Below(4) == 0 {
			clear = lead(clear, addr)
		}
	}
	out, _ := heap.Turn(clear)
	return out
}

// lead marks an object, and what it leads to.
func lead(h api.Heap, addr uint64) api.Heap {
	h, was, why := heap.Mark(h, addr)
	if was || why != api.OK {
		return h
	}
	for _, o := range sample.Objects(h) {
		if o.Addr == addr {
			for _, ref := range o.Refs() {
				h = lead(h, ref)
			}
		}
	}
	return h
}

// TestRight: every function answers a valid value if it was given one, however they follow one another.
func TestRight(t *testing.T) {
	p := sample.Picks(234)
	fine := map[string]int{}
	for i, s := range scavs(60) {
		walk(&p, s, 40, func(e event) {
			if why := scav.Check(e.after); why != api.OK || !valid(e.after) || heap.Check(e.after.Heap) != api.OK {
				t.Fatalf("value %d: %s answers one that is not valid", i, e.what)
			}
			if e.why == api.OK {
				fine[e.what]++
			}
		})
	}
	if fine["New"] < 400 || fine["Release"] < 400 || fine["Keep"] < 200 || fine["Clean"] < 100 || fine["Turn"] < 200 {
		t.Error(fine)
	}
}

// 23.5

// TestAllTheSame: the heap is what the same calls of heap make of it, which know of no page that is Out.
func TestAllTheSame(t *testing.T) {
	p := sample.Picks(235)
	asked, back := map[string]int{}, 0
	for i, s := range scavs(100) {
		walk(&p, s, 40, func(e event) {
			if !sample.SameHeaps(e.after.Heap, e.heap) || !slices.Equal(e.addrs, e.alone) || e.why != e.no {
				t.Fatalf("value %d: %s answers %d, error %d, and %d, error %d without", i, e.what, e.addrs, e.why, e.alone, e.no)
			}
			asked[e.what]++
			if e.after.Faults != e.before.Faults {
				back++
			}
		})
	}
	if asked["New"] < 1000 || asked["Clean"] < 500 || back < 100 {
		t.Error(asked, back)
	}
}

// TestWithout: a value whose pages go and come back, and one in which none ever goes, have the same heap at any time.
func TestWithout(t *testing.T) {
	p := sample.Picks(236)
	there := 0
	for i := range 60 {
		h, _ := heap.Make(2 + p.Below(30))
		s, _ := scav.Make(h)
		all := s
		for range 60 {
			if p.Below(2) == 0 {
				s, _, _ = scav.Release(s, p.Below(4))
			} else {
				s, _, _ = scav.Keep(s, p.Below(20))
			}
			shape, first := sample.SomeShape(&p), p.Below(s.Out.N)
			a, b := uint64(0), uint64(0)
			s, a, _ = scav.New(s, shape, true)
			all, b, _ = scav.New(all, shape, true)
			if p.Below(8) == 0 {
				s.Heap = marked(&p, s.Heap)
				all.Heap = sample.CopyHeap(s.Heap)
			}
			s, _, _ = scav.Clean(s, first)
			all, _, _ = scav.Clean(all, first)
			if !sample.SameHeaps(s.Heap, all.Heap) || a != b {
				t.Fatalf("value %d: %d, and %d without", i, a, b)
			}
			if all.Gone != 0 || all.Faults != 0 || number(listOf(all.Out)) != 0 {
				t.Fatalf("value %d: a page goes, though nobody returns it", i)
			}
		}
		if s.Faults > 0 {
			there++
		}
	}
	if there < 30 {
		t.Error(there)
	}
}

// 23.6

// TestCounted: from Make on, as many pages are Out as went and did not come back.
func TestCounted(t *testing.T) {
	p := sample.Picks(237)
	out, back := 0, 0
	for i, h := range sample.Heaps() {
		if h.Pages.Used.N > 100 {
			continue
		}
		for range 5 {
			s, _ := scav.Make(h)
			walk(&p, s, 60, func(e event) {
				n := number(listOf(e.after.Out))
				if uint64(n) != e.after.Gone-e.after.Faults || e.after.Gone < e.after.Faults {
					t.Fatalf("heap %d, %s: %d pages are out, %d went, %d came back", i, e.what, n, e.after.Gone, e.after.Faults)
				}
				if went := e.after.Gone - e.before.Gone; went != uint64(e.n) {
					t.Fatalf("heap %d, %s: %d pages went, and it answers %d", i, e.what, went, e.n)
				}
				out += n
				back += int(e.after.Faults - e.before.Faults)
			})
		}
	}
	if out < 500 || back < 100 {
		t.Error(out, back)
	}
}
