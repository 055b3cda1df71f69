package sample

import (
	"math"
	"slices"

	"besom/api"
)

// Micro returns a value in which these objects are marked, with these hands, and queues behind which as many are added as there are hands. It does not ask whether it is valid.
func Micro(h api.Heap, marked []uint64, hands []api.MicroHand, queues ...[]uint64) api.Micro {
	m := On(h, make([]api.Hand, len(hands)), queues...)
	return api.Micro{Heap: m.Heap, Marks: MarkBits(h, marked...), Grey: m.Grey, Hands: slices.Clone(hands)}
}

// MarkBits returns the words of marks of a heap in which these addresses have their marks.
func MarkBits(h api.Heap, addrs ...uint64) []uint64 {
	words := make([]uint64, (len(h.Arena.Words)+127)/128)
	for _, addr := range addrs {
		words[addr/128] |= 1 << (addr / 2 % 64)
	}
	return words
}

// CopyMicro returns the value with memory of its own.
func CopyMicro(m api.Micro) api.Micro {
	m.Heap = CopyHeap(m.Heap)
	m.Marks = slices.Clone(m.Marks)
	m.Grey = CopyGrey(m.Grey)
	m.Hands = slices.Clone(m.Hands)
	return m
}

// SameMicros reports whether two values are alike; a nil list is an empty one.
func SameMicros(a, b api.Micro) bool {
	return SameHeaps(a.Heap, b.Heap) && slices.Equal(a.Marks, b.Marks) && SameGreys(a.Grey, b.Grey) && slices.Equal(a.Hands, b.Hands)
}

// SpoilsOfMicro returns functions each of which changes one list of a value, and all that lies behind its end.
func SpoilsOfMicro(m api.Micro) []func() {
	out := append(SpoilsOfHeap(m.Heap), SpoilWords(m.Marks),
		spoil(m.Grey.Queues, func(q *[]uint64) { *q = []uint64{1000} }),
		spoil(m.Hands, func(h *api.MicroHand) { h.Obj += 1000 }))
	for _, q := range m.Grey.Queues {
		out = append(out, SpoilWords(q))
	}
	return out
}

// RoomyMicro returns a value in memory that goes on behind its lists, where a careless append would write to, and a function that reports whether what lies there is as it was.
func RoomyMicro(m api.Micro) (api.Micro, func() bool) {
	m = CopyMicro(m)
	h, rest := RoomyHeap(m.Heap)
	m.Heap = h
	rests := []func() bool{rest, extend(&m.Marks, 77), extend(&m.Hands, api.MicroHand{Obj: 77})}
	for i := range m.Grey.Queues {
		rests = append(rests, extend(&m.Grey.Queues[i], 77))
	}
	rests = append(rests, extendBy(&m.Grey.Queues, []uint64{77}, func(q []uint64) bool { return slices.Equal(q, []uint64{77}) }))
	return m, every(rests)
}

// WovenMicros returns valid values whose lists share memory.
func WovenMicros() []api.Micro {
	word, line := []uint64{3}, []uint64{16, 18, 20}
	h := Heap(2, []api.Span{Span(1, 1, 2, 3, 3)}, Object{Addr: 16, N: 1, Mask: 1, Fields: []uint64{18}}, Object{Addr: 18})
	s := &h.Spans[0]
	h.Pages.Used.W, s.Alloc.W, s.Mark.W = word, word, word
	// Page 0 is empty, so that its words may be marks, too.
	m := api.Micro{Heap: h, Marks: h.Arena.Words[:1], Grey: api.Grey{Queues: [][]uint64{line[:1], line[1:2]}}, Hands: make([]api.MicroHand, 2)}
	seen := m
	seen.Hands = []api.MicroHand{{Pc: api.MicroSwap, Obj: 16, Shape: api.Shape{N: 1, Mask: 1}, To: 18}, {Pc: api.MicroHead, Obj: 18}}
	empty := m
	empty.Grey.Queues = [][]uint64{line[:0], line[1:1]}
	return []api.Micro{m, seen, empty}
}

// ThreePairs is the heap of the examples of chapter 27: l0 to l2 are at 16, 20 and 24.
func ThreePairs() api.Heap {
	return Heap(4, []api.Span{Span(1, 1, 4, 7, 0)},
		Object{Addr: 16, N: 2, Mask: 3, Fields: []uint64{24}}, Object{Addr: 20, N: 2, Mask: 3, Fields: []uint64{0, 24}}, Object{Addr: 24, N: 2, Mask: 3})
}

// FarPairs is a heap whose objects have their marks in several words, at the ends of these: those at 126 and 128, 254 and 256, and 1022.
func FarPairs() api.Heap {
	l := []api.Span{Span(7, 1, 2, 0x80, 0), Span(8, 1, 2, 1, 0), Span(15, 1, 2, 0x80, 0), Span(16, 1, 2, 1, 1), Span(63, 1, 2, 0x80, 0)}
	return Heap(64, l,
		Object{Addr: 126, N: 1, Mask: 1, Fields: []uint64{128}}, Object{Addr: 128, N: 1, Mask: 1, Fields: []uint64{1022}},
		Object{Addr: 254, N: 1, Mask: 1, Fields: []uint64{126}}, Object{Addr: 256, N: 1, Fields: []uint64{254}}, Object{Addr: 1022, N: 1, Mask: 1, Fields: []uint64{254}})
}

// Micros returns valid values, small ones first.
func Micros() []api.Micro {
	pairs, linked, far := ThreePairs(), ThreeLinked(), FarPairs()
	two := api.Shape{N: 2, Mask: 3}
	three := api.Shape{N: 3, Mask: 5}
	full, spans := FullPages(), FullSpans()
	return []api.Micro{
		Micro(Heap(1, nil), nil, make([]api.MicroHand, 1)),
		Micro(Heap(8, nil), nil, make([]api.MicroHand, 2)),
		Micro(Heap(9, nil), nil, make([]api.MicroHand, 3)),
		Micro(Heap(1024, nil), nil, make([]api.MicroHand, 4)),
		Micro(pairs, nil, make([]api.MicroHand, 2)),
		Micro(pairs, []uint64{16, 20, 24}, make([]api.MicroHand, 1)),
		Micro(pairs, []uint64{16, 20}, make([]api.MicroHand, 2), []uint64{16, 20}),
		Micro(pairs, nil, make([]api.MicroHand, 2), []uint64{24}, []uint64{16, 20}),
		Micro(pairs, []uint64{16}, []api.MicroHand{{Pc: api.MicroHead, Obj: 16}, {}}),
		Micro(pairs, nil, []api.MicroHand{{Pc: api.MicroHead, Obj: 16}, {Pc: api.MicroHead, Obj: 16}}, nil, []uint64{16}),
		Micro(pairs, nil, []api.MicroHand{{Pc: api.MicroField, Obj: 20, Shape: two}, {}}),
		Micro(pairs, nil, []api.MicroHand{{}, {Pc: api.MicroField, Obj: 20, Shape: two, Field: 2}}),
		Micro(pairs, []uint64{16, 20}, []api.MicroHand{{Pc: api.MicroSeen, Obj: 16, Shape: two, To: 24}, {Pc: api.MicroSeen, Obj: 20, Shape: two, Field: 1, To: 24}}),
		Micro(pairs, []uint64{24}, []api.MicroHand{{Pc: api.MicroSeen, Obj: 24, Shape: two, Field: 1, To: 24}}),
		Micro(pairs, []uint64{16, 20}, []api.MicroHand{{Pc: api.MicroSwap, Obj: 16, Shape: two, To: 24, Seen: 1<<8 + 1<<10}, {Pc: api.MicroSwap, Obj: 20, Shape: two, Field: 1, To: 24, Seen: 1 << 8}}),
		Micro(pairs, nil, []api.MicroHand{{Pc: api.MicroSwap, Obj: 24, Shape: two, To: 16}, {Pc: api.MicroSwap, Obj: 24, Shape: two, Field: 1, To: 16, Seen: math.MaxUint64}}),
		Micro(pairs, []uint64{16}, []api.MicroHand{{Pc: api.MicroSwap, Obj: 20, Shape: two, To: 16, Seen: 1 << 8}, {}}, nil, []uint64{16}),
		Micro(pairs, []uint64{24}, []api.MicroHand{{Pc: api.MicroPush, Obj: 16, Shape: two, To: 24}, {Pc: api.MicroPush, Obj: 20, Shape: two, Field: 1, To: 24}}),
		Micro(pairs, nil, []api.MicroHand{{Pc: api.MicroPush, Obj: 16, Shape: two, Field: 1, To: 20}, {}}, []uint64{24, 20}),
		Micro(linked, []uint64{32}, []api.MicroHand{{Pc: api.MicroField, Obj: 16, Shape: three, Field: 1}, {}, {Pc: api.MicroField, Obj: 32, Shape: api.Shape{N: 1}, Field: 1}, {Pc: api.MicroSeen, Obj: 16, Shape: three, Field: 2, To: 16}}),
		Micro(far, []uint64{126, 256, 1022}, []api.MicroHand{{Pc: api.MicroSwap, Obj: 1022, Shape: api.Shape{N: 1, Mask: 1}, To: 254}, {}}, nil, []uint64{1022, 126}),
		Micro(full, nil, make([]api.MicroHand, 3), nil, []uint64{80}),
		Micro(full, []uint64{16, 80}, []api.MicroHand{{Pc: api.MicroField, Obj: 16, Shape: api.Shape{N: 48, Mask: 1<<48 - 1}, Field: 48}, {Pc: api.MicroHead, Obj: 80}}),
		Micro(spans, []uint64{16, 18}, []api.MicroHand{{Pc: api.MicroSeen, Obj: 18, Shape: api.Shape{N: 1, Mask: 1}, To: 20}, {}}, []uint64{16}),
	}
}

// SmallMicros returns those of Micros that a test may try again and again.
func SmallMicros() []api.Micro {
	return slices.DeleteFunc(Micros(), func(m api.Micro) bool { return len(m.Heap.Spans) > 100 })
}

// BadMicros returns values that are not valid, each for a reason of its own.
func BadMicros() []api.Micro {
	return slices.Concat(badMicroParts(), badMarkBits(), badMicroQueues(), badMicroHands())
}

// badMicroParts are values whose heap, queues or number of hands are not valid, or that have a span that is not Swept.
func badMicroParts() []api.Micro {
	bad := []api.Micro{{}, {Heap: ThreePairs()}}
	for _, h := range BadHeaps() {
		bad = append(bad, Micro(h, nil, make([]api.MicroHand, 1)))
	}
	for i := range 3 {
		h := ThreeObjects()
		h.Spans = append(h.Spans, Span(5, 1, 2, 0, 0))
		h.Pages.Used.W[0] |= 1 << 5
		h.Spans[i] = Unswept(h.Spans[i])
		bad = append(bad, Micro(h, nil, make([]api.MicroHand, 2)), Micro(Marks(h, 16, 20, 32), nil, make([]api.MicroHand, 2)))
	}
	for _, g := range BadGreys() {
		m := Micro(ThreePairs(), nil, make([]api.MicroHand, len(g.Queues)))
		m.Grey = g
		bad = append(bad, m)
	}
	for _, n := range []int{0, 1, 3, 4, 1000} {
		m := Micro(ThreePairs(), nil, make([]api.MicroHand, 2))
		m.Hands = make([]api.MicroHand, n)
		bad = append(bad, m)
	}
	return bad
}

// badMarkBits are values with too few or too many words of marks, or with a mark of what is no object.
func badMarkBits() []api.Micro {
	var bad []api.Micro
	for _, h := range []api.Heap{ThreePairs(), FarPairs(), Heap(8, nil), Heap(9, nil)} {
		right := len(MarkBits(h))
		for _, n := range []int{0, right - 1, right + 1, 2 * right, 1000} {
			m := Micro(h, nil, make([]api.MicroHand, 2))
			m.Marks = make([]uint64, n)
			if n != right {
				bad = append(bad, m)
			}
		}
	}
	for bit := range 64 {
		if addr := 2 * bit; addr != 16 && addr != 20 && addr != 24 {
			alone, among := Micro(ThreePairs(), nil, make([]api.MicroHand, 2)), Micro(ThreePairs(), []uint64{16, 20, 24}, make([]api.MicroHand, 2))
			alone.Marks[0] |= 1 << bit
			among.Marks[0] |= 1 << bit
			bad = append(bad, alone, among)
		}
	}
	for at := range 8 {
		for _, bit := range []int{0, 1, 31, 32, 62} {
			m := Micro(FarPairs(), []uint64{126}, make([]api.MicroHand, 1))
			// The objects at 128 and 256 have their marks in the first bits of the words 1 and 2.
			if bit > 0 || at != 1 && at != 2 {
				m.Marks[at] |= 1 << bit
				bad = append(bad, m)
			}
		}
	}
	return bad
}

// badMicroQueues are values with something in a queue that is no object.
func badMicroQueues() []api.Micro {
	var bad []api.Micro
	for _, addr := range noPairs() {
		bad = append(bad, Micro(ThreePairs(), []uint64{16}, make([]api.MicroHand, 2), []uint64{addr}),
			Micro(ThreePairs(), nil, make([]api.MicroHand, 3), []uint64{16}, nil, []uint64{20, addr, 24}))
	}
	return bad
}

// noPairs are addresses at which there is no object in ThreePairs.
func noPairs() []uint64 {
	return []uint64{1, 2, 4, 8, 15, 17, 18, 22, 25, 28, 30, 32, 63, 64, 128, 16384, 1 << 32, 1<<32 + 16, 1<<60 + 16, 1 << 63, math.MaxUint64 - 15, math.MaxUint64}
}

// badMicroHands are values with a hand that is not right.
func badMicroHands() []api.Micro {
	var out []api.Micro
	for i, hand := range slices.Concat(badEarlyHands(), badLaterHands(), badGoals()) {
		hands := make([]api.MicroHand, 1+i%4)
		hands[i%len(hands)] = hand
		out = append(out, Micro(ThreePairs(), []uint64{16}, hands))
	}
	return append(out, badNumberHands()...)
}

// pairHands are hands of ThreePairs that are right, one for each Pc but MicroIdle.
func pairHands() []api.MicroHand {
	two := api.Shape{N: 2, Mask: 3}
	return []api.MicroHand{
		{Pc: api.MicroHead, Obj: 16},
		{Pc: api.MicroField, Obj: 16, Shape: two, Field: 1},
		{Pc: api.MicroSeen, Obj: 16, Shape: two, Field: 1, To: 20},
		{Pc: api.MicroPush, Obj: 16, Shape: two, Field: 1, To: 20},
		{Pc: api.MicroSwap, Obj: 16, Shape: two, Field: 1, To: 20, Seen: 1 << 8},
	}
}

// wrong are copies of a hand, each with one of the changes.
func wrong(hand api.MicroHand, changes ...func(hand *api.MicroHand)) []api.MicroHand {
	var out []api.MicroHand
	for _, change := range changes {
		other := hand
		change(&other)
		out = append(out, other)
	}
	return out
}

// badEarlyHands are hands that have what does not go with MicroIdle and MicroHead, or no object, or a Pc that is none.
func badEarlyHands() []api.MicroHand {
	bad := []api.MicroHand{{Obj: 16}}
	for _, hand := range []api.MicroHand{{}, pairHands()[0]} {
		bad = append(bad, wrong(hand,
			func(hand *api.MicroHand) { hand.Shape = api.Shape{N: 2, Mask: 3} },
			func(hand *api.MicroHand) { hand.Shape.N = 1 },
			func(hand *api.MicroHand) { hand.Shape.Mask = 1 },
			func(hand *api.MicroHand) { hand.Field = 1 },
			func(hand *api.MicroHand) { hand.Field = -1 },
			func(hand *api.MicroHand) { hand.To = 20 },
			func(hand *api.MicroHand) { hand.Seen = 1 })...)
	}
	for _, hand := range pairHands() {
		for _, addr := range append(noPairs(), 0) {
			bad = append(bad, wrong(hand, func(hand *api.MicroHand) { hand.Obj = addr })...)
		}
		for _, pc := range []api.MicroPc{api.MicroIdle, api.MicroCount, 7, 8, 127, 128, 255} {
			bad = append(bad, wrong(hand, func(hand *api.MicroHand) { hand.Pc = pc })...)
		}
	}
	return bad
}

// badLaterHands are hands with another shape than that of the object, or a field that it has not.
func badLaterHands() []api.MicroHand {
	shapes := []api.Shape{
		{}, {N: 2}, {N: 2, Mask: 1}, {N: 2, Mask: 2}, {N: 3, Mask: 3}, {N: 1, Mask: 1}, {N: 2, Mask: 7},
		{N: -1, Mask: 3}, {N: 48, Mask: 3}, {N: math.MaxInt, Mask: math.MaxUint64}, {N: math.MinInt},
	}
	var bad []api.MicroHand
	for _, hand := range pairHands()[1:] {
		for _, shape := range shapes {
			bad = append(bad, wrong(hand, func(hand *api.MicroHand) { hand.Shape = shape })...)
		}
		for _, n := range append(Ints(), -2, 3, 48, 49, 1<<32+1) {
			bad = append(bad, wrong(hand, func(hand *api.MicroHand) { hand.Field = n })...)
		}
	}
	return bad
}

// badGoals are hands with a To or a Seen that does not go with their Pc, or at the end of their object.
func badGoals() []api.MicroHand {
	hands := pairHands()
	bad := wrong(hands[1], func(hand *api.MicroHand) { hand.To = 20 }, func(hand *api.MicroHand) { hand.To = math.MaxUint64 })
	for _, hand := range hands[1:4] {
		bad = append(bad, wrong(hand, func(hand *api.MicroHand) { hand.Seen = 1 }, func(hand *api.MicroHand) { hand.Seen = math.MaxUint64 })...)
	}
	for _, hand := range hands[2:] {
		bad = append(bad, wrong(hand, func(hand *api.MicroHand) { hand.Field = 2 })...)
		for _, addr := range append(noPairs(), 0) {
			bad = append(bad, wrong(hand, func(hand *api.MicroHand) { hand.To = addr })...)
		}
	}
	return bad
}

// badNumberHands are values with a hand at a field of ThreeLinked that holds no reference.
func badNumberHands() []api.Micro {
	var out []api.Micro
	for _, pc := range []api.MicroPc{api.MicroSeen, api.MicroSwap, api.MicroPush} {
		for _, hand := range []api.MicroHand{
			{Pc: pc, Obj: 16, Shape: api.Shape{N: 3, Mask: 5}, Field: 1, To: 32}, {Pc: pc, Obj: 16, Shape: api.Shape{N: 3, Mask: 5}, Field: 3, To: 32},
			{Pc: pc, Obj: 32, Shape: api.Shape{N: 1}, To: 16}, {Pc: pc, Obj: 34, Shape: api.Shape{N: 1}, To: 16}, {Pc: pc, Obj: 32, Shape: api.Shape{N: 1, Mask: 1}, To: 16},
		} {
			out = append(out, Micro(ThreeLinked(), nil, []api.MicroHand{{}, hand}))
		}
	}
	return out
}

// SomeMicro returns a valid value of so many workers, and a heap of about so many spans. Any objects are marked, in queues and in hands.
func SomeMicro(p *Picks, spans, workers int) api.Micro {
	h := AllSwept(Web(p, spans))
	objects := Objects(h)
	var marked []uint64
	queues := make([][]uint64, workers)
	for _, o := range objects {
		if p.Below(3) == 0 {
			marked = append(marked, o.Addr)
		}
		if p.Below(5) == 0 {
			q := &queues[p.Below(workers)]
			*q = slices.Insert(*q, p.Below(len(*q)+1), o.Addr)
		}
	}
	m := Micro(h, marked, make([]api.MicroHand, workers), queues...)
	for i := range m.Hands {
		if len(objects) > 0 {
			m.Hands[i] = someMicroHand(p, m, objects)
		}
	}
	return m
}

// someMicroHand returns a hand that is right, with any of these objects. What it has seen is often what there is.
func someMicroHand(p *Picks, m api.Micro, objects []Object) api.MicroHand {
	o, to := objects[p.Below(len(objects))], objects[p.Below(len(objects))].Addr
	hand := api.MicroHand{Pc: api.MicroField, Obj: o.Addr, Shape: api.Shape{N: o.N, Mask: o.Mask}, Field: p.Below(o.N + 1)}
	pc := api.MicroPc(p.Below(int(api.MicroCount)))
	switch pc {
	case api.MicroIdle:
		return api.MicroHand{}
	case api.MicroHead:
		return api.MicroHand{Pc: pc, Obj: o.Addr}
	}
	if pc == api.MicroField || o.Mask>>hand.Field&1 == 0 {
		return hand
	}
	hand.Pc, hand.To = pc, to
	if pc == api.MicroSwap {
		hand.Seen = m.Marks[to/128]
		if p.Below(3) == 0 {
			hand.Seen = p.Word()
		}
	}
	return hand
}
