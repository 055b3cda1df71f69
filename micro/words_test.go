package micro_test

import (
	"slices"

	"besom/api"
	"besom/grey"
	"besom/heap"
	"besom/sample"
)

// What the chapter's words say, written down once more, and without regard for speed.

var same = sample.SameMicros

// objectAt returns the object at an address.
func objectAt(h api.Heap, addr uint64) (sample.Object, bool) {
	for _, o := range sample.Objects(h) {
		if o.Addr == addr {
			return o, true
		}
	}
	return sample.Object{}, false
}

// isMarked reports whether the mark of an object is 1.
func isMarked(m api.Micro, addr uint64) bool {
	return m.Marks[addr/128]>>(addr/2%64)%2 == 1
}

// markedOf is what Marked answers.
func markedOf(m api.Micro) []uint64 {
	var out []uint64
	for addr := uint64(0); addr < 128*uint64(len(m.Marks)); addr += 2 {
		if isMarked(m, addr) {
			out = append(out, addr)
		}
	}
	return out
}

// swept reports whether each span is Swept.
func swept(h api.Heap) bool {
	for _, s := range h.Spans {
		if !s.Swept {
			return false
		}
	}
	return true
}

// checked is what Check answers.
func checked(m api.Micro) api.Errno {
	if heap.Check(m.Heap) != api.OK || !swept(m.Heap) || grey.Check(m.Grey) != api.OK || len(m.Hands) != len(m.Grey.Queues) {
		return api.ErrForm
	}
	words := len(m.Heap.Arena.Words)
	right := words <= 128*len(m.Marks) && words > 128*(len(m.Marks)-1)
	addrs := sample.Addrs(m.Heap)
	for _, addr := range slices.Concat(markedOf(m), slices.Concat(m.Grey.Queues...)) {
		right = right && slices.Contains(addrs, addr)
	}
	for _, hand := range m.Hands {
		right = right && rightHand(m.Heap, hand)
	}
	if !right {
		return api.ErrForm
	}
	return api.OK
}

// rightHand reports whether a hand is as the chapter says: whatever it does not name is zero.
func rightHand(h api.Heap, hand api.MicroHand) bool {
	o, there := objectAt(h, hand.Obj)
	_, goal := objectAt(h, hand.To)
	shape := api.Shape{N: o.N, Mask: o.Mask}
	inside := hand.Field >= 0 && hand.Field <= o.N
	ref := inside && o.Mask>>hand.Field&1 == 1
	switch hand.Pc {
	case api.MicroIdle:
		return hand == api.MicroHand{}
	case api.MicroHead:
		return there && hand == api.MicroHand{Pc: hand.Pc, Obj: hand.Obj}
	case api.MicroField:
		return there && inside && hand == api.MicroHand{Pc: hand.Pc, Obj: hand.Obj, Shape: shape, Field: hand.Field}
	case api.MicroSeen, api.MicroPush:
		return there && ref && goal && hand == api.MicroHand{Pc: hand.Pc, Obj: hand.Obj, Shape: shape, Field: hand.Field, To: hand.To}
	case api.MicroSwap:
		return there && ref && goal && hand.Shape == shape
	}
	return false
}

// made is what Make answers.
func made(h api.Heap, workers int, roots ...uint64) (api.Micro, api.Errno) {
	if heap.Check(h) != api.OK {
		return api.Micro{}, api.ErrForm
	}
	if !swept(h) {
		return api.Micro{}, api.ErrState
	}
	if workers < 1 || workers > 4 {
		return api.Micro{}, api.ErrRange
	}
	addrs := sample.Addrs(h)
	var pushed []uint64
	for _, addr := range roots {
		if addr == 0 || slices.Contains(pushed, addr) {
			continue
		}
		if !slices.Contains(addrs, addr) {
			return api.Micro{}, api.ErrDead
		}
		pushed = append(pushed, addr)
	}
	return sample.Micro(h, pushed, make([]api.MicroHand, workers), pushed), api.OK
}

// left reports whether something is in a queue or a hand.
func left(m api.Micro) bool {
	return len(slices.Concat(m.Grey.Queues...)) > 0 || slices.ContainsFunc(m.Hands, func(hand api.MicroHand) bool { return hand.Pc != api.MicroIdle })
}

// stepped is what Step answers.
func stepped(m api.Micro, worker int) (api.Micro, api.Access, api.Errno) {
	if worker < 0 || worker > len(m.Hands)-1 {
		return m, api.AccessNone, api.ErrTask
	}
	out := sample.CopyMicro(m)
	hand := &out.Hands[worker]
	o, _ := objectAt(m.Heap, hand.Obj)
	behind := api.MicroHand{Pc: api.MicroField, Obj: hand.Obj, Shape: hand.Shape, Field: hand.Field + 1}
	switch hand.Pc {
	case api.MicroIdle:
		if len(slices.Concat(m.Grey.Queues...)) == 0 {
			return m, api.AccessNone, api.ErrNone
		}
		*hand = api.MicroHand{Pc: api.MicroHead, Obj: sample.Popped(out.Grey, worker)}
		return out, api.AccessQueue, api.OK
	case api.MicroHead:
		*hand = api.MicroHand{Pc: api.MicroField, Obj: hand.Obj, Shape: api.Shape{N: o.N, Mask: o.Mask}}
		return out, api.AccessArena, api.OK
	case api.MicroField:
		return out, examined(hand, o), api.OK
	case api.MicroSeen:
		if isMarked(m, hand.To) {
			*hand = behind
			return out, api.AccessMark, api.OK
		}
		hand.Pc, hand.Seen = api.MicroSwap, m.Marks[hand.To/128]
		return out, api.AccessMark, api.OK
	case api.MicroSwap:
		if m.Marks[hand.To/128] != hand.Seen {
			hand.Pc, hand.Seen = api.MicroSeen, 0
			return out, api.AccessLost, api.OK
		}
		out.Marks = sample.MarkBits(m.Heap, append(markedOf(m), hand.To)...)
		hand.Pc, hand.Seen = api.MicroPush, 0
		return out, api.AccessSwap, api.OK
	}
	if !slices.Contains(slices.Concat(m.Grey.Queues...), hand.To) {
		out.Grey.Queues[worker] = append(out.Grey.Queues[worker], hand.To)
	}
	*hand = behind
	return out, api.AccessQueue, api.OK
}

// examined reads the next field of an object that holds a reference, and returns what was accessed.
func examined(hand *api.MicroHand, o sample.Object) api.Access {
	for i := hand.Field; i < o.N; i++ {
		if o.Mask>>i&1 == 0 {
			continue
		}
		hand.Field = i
		if o.Fields[i] == 0 {
			hand.Field++
		} else {
			hand.To, hand.Pc = o.Fields[i], api.MicroSeen
		}
		return api.AccessArena
	}
	*hand = api.MicroHand{}
	return api.AccessNone
}

// ran is what Run answers.
func ran(m api.Micro, workers []int) (api.Micro, int, int, api.Errno) {
	for _, worker := range workers {
		if worker < 0 || worker > len(m.Hands)-1 {
			return m, 0, 0, api.ErrTask
		}
	}
	var all []int
	for worker := range m.Hands {
		all = append(all, worker)
	}
	if len(workers) == 0 {
		workers = all
	}
	steps, lost := 0, 0
	for out := m; ; {
		if !left(out) {
			return out, steps, lost, api.OK
		}
		after, n, k := round(out, workers, len(workers))
		if n == 0 {
			after, n, k = round(out, all, 1)
		}
		out, steps, lost = after, steps+n, lost+k
	}
}

// round executes a step of each of the workers, but no more than so many, and returns their number, and how many of them were lost.
func round(m api.Micro, workers []int, most int) (out api.Micro, steps, lost int) {
	for _, worker := range workers {
		after, access, why := stepped(m, worker)
		if why != api.OK || steps == most {
			continue
		}
		m = after
		steps++
		if access == api.AccessLost {
			lost++
		}
	}
	return m, steps, lost
}

// seen returns the value after the first six steps of the chapter's example: both workers have To l2 and the Pc MicroSeen.
func seen() api.Micro {
	two := api.Shape{N: 2, Mask: 3}
	return sample.Micro(sample.ThreePairs(), []uint64{16, 20}, []api.MicroHand{
		{Pc: api.MicroSeen, Obj: 20, Shape: two, Field: 1, To: 24}, {Pc: api.MicroSeen, Obj: 16, Shape: two, To: 24}})
}

// micros are valid values of all kinds, with small heaps.
func micros(seed uint64, n int) []api.Micro {
	out := append(sample.SmallMicros(), seen())
	p := sample.Picks(seed)
	for i := range n {
		out = append(out, sample.SomeMicro(&p, i%10, 1+i%4))
	}
	return out
}

// crowds are heaps all of whose objects are near to one another, so that workers often disturb each other's swaps.
func crowds(p *sample.Picks, n int) []api.Heap {
	var out []api.Heap
	for range n {
		var l []sample.Object
		for i := range 8 {
			o := sample.Object{Addr: uint64(16 + 4*i), N: 3, Mask: 7}
			for range 3 {
				o.Fields = append(o.Fields, uint64(16+4*p.Below(9))%48)
			}
			l = append(l, o)
		}
		out = append(out, sample.Heap(4, []api.Span{sample.Span(1, 1, 4, 15, 0), sample.Span(2, 1, 4, 15, 0)}, l...))
	}
	return out
}

// busy are values in which several workers mark such heaps.
func busy(seed uint64, n int) []api.Micro {
	var out []api.Micro
	p := sample.Picks(seed)
	for i, h := range crowds(&p, n) {
		roots := []uint64{16, 24, 36, 44}[:1+i%4]
		out = append(out, sample.Micro(h, roots, make([]api.MicroHand, 2+i/4%3), roots))
	}
	return out
}
