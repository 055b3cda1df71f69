package heap_test

import (
	"maps"
	"slices"
	"testing"

	"besom/api"
	"besom/heap"
	"besom/sample"
)

// twinObject is what a test remembers of an object.
type twinObject struct {
	shape  api.Shape
	fields []uint64
	marked bool
}

// play changes a heap by calls that are chosen by a sequence of numbers, and remembers what is in it.
type play struct {
	*testing.T
	h       api.Heap
	state   uint64
	objects map[uint64]*twinObject
}

func (p *play) pick(n int) int {
	p.state = p.state*6364136223846793005 + 1442695040888963407
	return int(p.state >> 33 % uint64(n))
}

// one returns the address of one of the objects, or 0.
func (p *play) one() uint64 {
	l := slices.Sorted(maps.Keys(p.objects))
	if len(l) == 0 {
		return 0
	}
	return l[p.pick(len(l))]
}

func (p *play) alloc() {
	n := []int{0, 1, 2, 3, 5, 7, 12, 15, 16, 20, 33, 48}[p.pick(12)]
	s := api.Shape{N: n, Mask: p.state >> 7 & (1<<n - 1)}
	black := p.pick(3) == 0
	h, addr, why := heap.New(p.h, s, black)
	switch {
	case why == api.OK && p.objects[addr] == nil:
		p.objects[addr] = &twinObject{s, make([]uint64, n), black}
	case why != api.ErrFull || !same(h, p.h):
		p.Fatalf("New of %v: %d, error %d", s, addr, why)
	}
	p.h = h
}

func (p *play) store() {
	addr := p.one()
	o := p.objects[addr]
	if o == nil || o.shape.N == 0 {
		return
	}
	field := p.pick(o.shape.N)
	w, ref := p.state, isRef(o.shape, field)
	if ref {
		w = p.one() * uint64(min(1, p.pick(8)))
	}
	h, why := heap.Store(p.h, addr, field, w, ref)
	if why != api.OK {
		p.Fatalf("Store in %d, %d, %d: error %d", addr, field, w, why)
	}
	p.h, o.fields[field] = h, w
}

func (p *play) mark() {
	addr := p.one()
	if addr == 0 {
		return
	}
	h, was, why := heap.Mark(p.h, addr)
	if was != p.objects[addr].marked || why != api.OK {
		p.Fatalf("Mark of %d: %v, error %d", addr, was, why)
	}
	p.h, p.objects[addr].marked = h, true
}

// collect marks what two objects lead to, turns the heap, and cleans its spans. Other calls come between.
func (p *play) collect() {
	h, why := heap.Unmark(p.h)
	if why != api.OK {
		p.Fatalf("Unmark: error %d", why)
	}
	p.h = h
	for _, o := range p.objects {
		o.marked = false
	}
	p.lead(p.one())
	p.lead(p.one())
	h, why = heap.Turn(p.h)
	if why != api.OK {
		p.Fatalf("Turn: error %d", why)
	}
	p.h = h
	maps.DeleteFunc(p.objects, func(addr uint64, o *twinObject) bool { return !o.marked })
	p.compare()
	for _, s := range slices.Clone(h.Spans) {
		p.alloc()
		p.store()
		p.clean(s.First)
	}
}

// lead marks an object, and what its fields lead to.
func (p *play) lead(addr uint64) {
	o := p.objects[addr]
	if o == nil || o.marked {
		return
	}
	h, _, why := heap.Mark(p.h, addr)
	if why != api.OK {
		p.Fatalf("Mark of %d: error %d", addr, why)
	}
	p.h, o.marked = h, true
	for i, w := range o.fields {
		if isRef(o.shape, i) {
			p.lead(w)
		}
	}
}

func (p *play) clean(first int) {
	h, freed, why := heap.Clean(p.h, first)
	if why != api.OK {
		p.Fatalf("Clean of %d: error %d", first, why)
	}
	for _, addr := range freed {
		if p.objects[addr] != nil {
			p.Fatalf("Clean of %d frees %d", first, addr)
		}
	}
	p.h = h
	p.compare()
}

// compare holds the heap to what is remembered: exactly these objects, as they were stored, apart from one another, and the free pages.
func (p *play) compare() {
	p.Helper()
	if why := heap.Check(p.h); why != api.OK || !valid(p.h) {
		p.Fatalf("Check: error %d", why)
	}
	if l, why := heap.Objects(p.h); !slices.Equal(l, slices.Sorted(maps.Keys(p.objects))) || why != api.OK {
		p.Fatalf("Objects: %d, error %d", l, why)
	}
	owner := map[uint64]uint64{}
	for addr, o := range p.objects {
		if s, why := heap.At(p.h, addr); s != o.shape || why != api.OK {
			p.Fatalf("At of %d: %v, error %d; want %v", addr, s, why, o.shape)
		}
		if marked, why := heap.Marked(p.h, addr); marked != o.marked || why != api.OK {
			p.Fatalf("Marked of %d: %v, error %d", addr, marked, why)
		}
		for i := range o.shape.N + 1 {
			if other, ok := owner[addr+uint64(i)]; ok {
				p.Fatalf("%d and %d have a word in common", addr, other)
			}
			owner[addr+uint64(i)] = addr
		}
		for i, want := range o.fields {
			if w, ref, why := heap.Load(p.h, addr, i); w != want || ref != isRef(o.shape, i) || why != api.OK {
				p.Fatalf("Load of %d, %d: %d, %v, error %d; want %d", addr, i, w, ref, why, want)
			}
		}
	}
}

// TestPlay: 7.5 (right), 7.6 (loaded), 7.7 (apart) and 7.8 (swept), whatever is called.
func TestPlay(t *testing.T) {
	for seed, pages := range []int{1, 2, 5, 9, 12, 16, 20, 24, 24, 30} {
		h, _ := heap.Make(pages)
		p := &play{t, h, uint64(seed), map[uint64]*twinObject{}}
		for turn := range 60 {
			switch p.pick(10) {
			case 0, 1, 2, 3:
				p.alloc()
			case 4, 5, 6:
				p.store()
			case 7, 8:
				p.mark()
			default:
				if turn%2 == 0 {
					p.collect()
				}
			}
			p.compare()
		}
	}
}

// 7.6

// TestOneField: Store changes one field, and no other word of the heap.
func TestOneField(t *testing.T) {
	for _, h := range small() {
		for addr, x := range lives(h) {
			for field := range x.shape.N {
				w := uint64(1<<63 + 5)
				if isRef(x.shape, field) {
					w = addr
				}
				out, why := heap.Store(h, addr, field, w, isRef(x.shape, field))
				if got, _, _ := heap.Load(out, addr, field); got != w || why != api.OK {
					t.Fatalf("Load of %d, %d: %d, error %d; want %d", addr, field, got, why, w)
				}
				for other := range lives(h) {
					for i := range lives(h)[other].shape.N {
						was, _, _ := heap.Load(h, other, i)
						if is, _, _ := heap.Load(out, other, i); is != was && (other != addr || i != field) {
							t.Fatalf("Store in %d, %d changes %d, %d", addr, field, other, i)
						}
					}
				}
			}
		}
	}
}

// 7.8

// TestSwept: after Turn, and Clean of every span in any order, the marked objects are left unchanged, and all other pages are free.
func TestSwept(t *testing.T) {
	for i, start := range sample.Heaps() {
		h, why := heap.Turn(start)
		if why != api.OK {
			continue
		}
		order := slices.Clone(start.Spans)
		if i%2 == 1 {
			slices.Reverse(order)
		}
		for _, s := range order {
			h, _, why = heap.Clean(h, s.First)
			if why != api.OK {
				t.Fatalf("Clean in heap %d, %d: error %d", i, s.First, why)
			}
		}
		var want []uint64
		for _, x := range things(start) {
			if x.marked {
				want = append(want, x.addr)
				words := start.Arena.Words[x.addr:][:x.words]
				if !slices.Equal(h.Arena.Words[x.addr:][:x.words], words) {
					t.Errorf("the object at %d of heap %d has changed", x.addr, i)
				}
			}
		}
		if l, why := heap.Objects(h); !slices.Equal(l, want) || why != api.OK {
			t.Errorf("Objects of heap %d: %d, error %d; want %d", i, l, why, want)
		}
		if !valid(h) {
			t.Errorf("heap %d is not valid any more", i)
		}
		for page := 1; page < h.Pages.Used.N; page++ {
			owned := slices.ContainsFunc(h.Spans, func(s api.Span) bool { return page >= s.First && page < s.First+s.Pages })
			if bit(h.Pages.Used, page) != owned {
				t.Errorf("page %d of heap %d: %v", page, i, owned)
			}
		}
	}
}
