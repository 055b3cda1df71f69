package sample

import (
	"slices"

	"besom/api"
)

// Picks chooses numbers, the same ones each time it begins at the same number.
type Picks uint64

// Word returns a number of any size.
func (p *Picks) Word() uint64 {
	*p = *p*6364136223846793005 + 1442695040888963407
	return uint64(*p)
}

// Below returns a number from 0 to n - 1.
func (p *Picks) Below(n int) int {
	return int(p.Word() >> 33 % uint64(n))
}

// SixObjects is the heap of the examples of chapter 11: l0 to l5 are at 16, 20, 24, 28, 32 and 36.
func SixObjects() api.Heap {
	refs := [][]uint64{{20, 0}, {16, 0}, {28, 0}, nil, nil, nil}
	var objects []Object
	for i, fields := range refs {
		objects = append(objects, Object{Addr: uint64(16 + 4*i), N: 2, Mask: 3, Fields: fields})
	}
	return Heap(6, []api.Span{Span(1, 1, 4, 15, 0), Span(2, 1, 4, 3, 0)}, objects...)
}

// SixEphems is the table of the examples of chapter 11: l1 has the value l4, l4 has l5, and l3 has l3.
func SixEphems() api.Ephem {
	return Pairs(8, 20, 32, 32, 36, 28, 28)
}

// Pairs returns a table of n slots into which keys were inserted, each with the number behind it as value. It does not ask whether such a table is valid.
func Pairs(n int, keysAndVals ...uint64) api.Ephem {
	slots := make([]api.EphSlot, n)
	for pair := range slices.Chunk(keysAndVals, 2) {
		Insert(slots, pair[0], pair[1])
	}
	return api.Ephem{Slots: slots}
}

// Objects returns the current objects of a valid heap, in ascending order, with all their fields.
func Objects(h api.Heap) []Object {
	var out []Object
	for _, s := range h.Spans {
		current := s.Mark
		if s.Swept {
			current = s.Alloc
		}
		for slot := range current.N {
			if current.W[0]>>slot&1 == 0 {
				continue
			}
			addr := uint64(s.First*16 + slot*s.Size)
			w := h.Arena.Words[addr]
			n := int(w & 0xff)
			out = append(out, Object{Addr: addr, N: n, Mask: w << 8 >> 16, Fields: slices.Clone(h.Arena.Words[addr+1:][:n])})
		}
	}
	return out
}

// Refs returns what an object refers to, without 0, in the order of its fields.
func (o Object) Refs() []uint64 {
	var out []uint64
	for i, w := range o.Fields {
		if o.Mask>>i&1 == 1 && w != 0 {
			out = append(out, w)
		}
	}
	return out
}

// Web returns a valid heap of about so many spans of all sizes, whose objects refer to one another as it comes. Numbers in it may look like references. Some of the spans are not Swept.
func Web(p *Picks, spans int) api.Heap {
	var l []api.Span
	first := 1
	for range spans {
		s := someSpan(p, first)
		l = append(l, s)
		first += s.Pages + p.Below(5)/4
	}
	var objects []Object
	var current []uint64
	for _, s := range l {
		for slot := range s.Alloc.N {
			if s.Alloc.W[0]>>slot&1 == 0 {
				continue
			}
			addr := uint64(s.First*16 + slot*s.Size)
			n := someFields(p, s)
			objects = append(objects, Object{Addr: addr, N: n, Mask: p.Word() & (1<<n - 1)})
			if s.Swept || s.Mark.W[0]>>slot&1 == 1 {
				current = append(current, addr)
			}
		}
	}
	for i := range objects {
		objects[i].Fields = someWords(p, objects[i], current)
	}
	return Heap(first+2, l, objects...)
}

func someSpan(p *Picks, first int) api.Span {
	size := []int{2, 4, 4, 8, 16, 0}[p.Below(6)]
	pages, slots := 1, 1
	if size == 0 {
		pages = 2 + p.Below(3)
	} else {
		slots = 16 / size
	}
	alloc := p.Word() >> 20 & (1<<slots - 1)
	s := Span(first, pages, size, alloc, alloc&(p.Word()>>20))
	s.Swept = p.Below(4) > 0
	return s
}

// someFields returns a number of fields of objects in such a span.
func someFields(p *Picks, s api.Span) int {
	switch s.Size {
	case 0:
		return min(16*(s.Pages-1)+p.Below(16), 48)
	case 2:
		return p.Below(2)
	}
	return s.Size/2 + p.Below(s.Size/2)
}

// someWords returns the fields of an object: half of its references are 0.
func someWords(p *Picks, o Object, current []uint64) []uint64 {
	out := make([]uint64, o.N)
	for i := range out {
		w := p.Word()
		if len(current) > 0 && p.Below(8) > 0 {
			w = current[p.Below(len(current))]
		} else if o.Mask>>i&1 == 1 {
			w = 0
		}
		if p.Below(2) == 0 {
			w = 0
		}
		out[i] = w
	}
	return out
}

// Reachable returns the objects that are reachable from roots by fields, in ascending order. Roots that are 0 lead to nothing.
func Reachable(h api.Heap, roots ...uint64) []uint64 {
	in := map[uint64]bool{}
	for _, addr := range roots {
		in[addr] = addr != 0
	}
	objects := Objects(h)
	for before := -1; before < len(in); {
		before = len(in)
		for _, o := range objects {
			if !in[o.Addr] {
				continue
			}
			for _, ref := range o.Refs() {
				in[ref] = true
			}
		}
	}
	var out []uint64
	for _, o := range objects {
		if in[o.Addr] {
			out = append(out, o.Addr)
		}
	}
	return out
}

// SomeRoots returns 0 and some objects of a heap, some of them more than once.
func SomeRoots(p *Picks, h api.Heap) []uint64 {
	roots := []uint64{0}
	if l := Objects(h); len(l) > 0 {
		for range p.Below(8) {
			roots = append(roots, l[p.Below(len(l))].Addr)
		}
	}
	return roots
}
