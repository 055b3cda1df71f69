package micro

import (
	"math/bits"
	"slices"

	"besom/api"
	"besom/grey"
	"besom/head"
	"besom/heap"
	"besom/plain"
)

// A word of marks is for so many words of the arena, because there is a mark for each second word.
const wordsPerMarks = 128

// markWords returns how many words of marks a heap has.
func markWords(h api.Heap) int {
	return (len(h.Arena.Words) + wordsPerMarks - 1) / wordsPerMarks
}

// markOf returns the word of marks in which an address has its mark, and this bit.
func markOf(addr uint64) (at, bit uint64) {
	return addr / wordsPerMarks, 1 << (addr % wordsPerMarks / 2)
}

// marked returns the addresses whose marks are set, in ascending order.
func (w working) marked() []uint64 {
	var addrs []uint64
	for at, word := range w.Marks {
		for ; word != 0; word &= word - 1 {
			addrs = append(addrs, uint64(at*wordsPerMarks+2*bits.TrailingZeros64(word)))
		}
	}
	return addrs
}

// view returns a valid value. It shares the memory of m.
func view(m api.Micro) (working, api.Errno) {
	w := working{m}
	addrs, why := heap.Objects(m.Heap)
	if why != api.OK || !plain.Swept(m.Heap) {
		return working{}, api.ErrForm
	}
	objects := plain.SetOf(len(m.Heap.Arena.Words), addrs)
	if !w.markedOf(objects) || !w.queuedOf(objects) || !w.handsOf(objects) {
		return working{}, api.ErrForm
	}
	return w, api.OK
}

// markedOf reports whether there are as many words of marks as there have to be, and only objects are marked.
func (w working) markedOf(objects plain.Set) bool {
	return len(w.Marks) == markWords(w.Heap) && !slices.ContainsFunc(w.marked(), func(addr uint64) bool {
		return !objects.Has(addr)
	})
}

// queuedOf reports whether the queues are valid, and have objects only.
func (w working) queuedOf(objects plain.Set) bool {
	// In valid queues, no address is 0.
	return grey.Check(w.Grey) == api.OK && objects.HasAll(slices.Concat(w.Grey.Queues...)...)
}

// handsOf reports whether there are as many hands as queues, each of which is right.
func (w working) handsOf(objects plain.Set) bool {
	return len(w.Hands) == len(w.Grey.Queues) && !slices.ContainsFunc(w.Hands, func(hand api.MicroHand) bool {
		return !w.right(hand, objects)
	})
}

// right reports whether a hand has what its Pc asks for, and nothing else.
func (w working) right(hand api.MicroHand, objects plain.Set) bool {
	if hand.Pc == api.MicroIdle {
		return hand == api.MicroHand{}
	}
	if !objects.Has(hand.Obj) {
		return false
	}
	if hand.Pc == api.MicroHead {
		return hand == api.MicroHand{Pc: api.MicroHead, Obj: hand.Obj}
	}
	if shape, _ := plain.Object(w.Heap, hand.Obj); hand.Shape != shape || hand.Field < 0 || hand.Field > shape.N {
		return false
	}
	switch hand.Pc {
	case api.MicroField:
		return hand.To == 0 && hand.Seen == 0
	case api.MicroSeen, api.MicroPush:
		return hand.Seen == 0 && refers(hand, objects)
	case api.MicroSwap:
		return refers(hand, objects)
	}
	return false
}

// refers reports whether a hand is at a field that holds a reference, and has an object to which it may refer.
func refers(hand api.MicroHand, objects plain.Set) bool {
	// Beside an error, ref is false.
	ref, _ := head.Ref(hand.Shape, hand.Field)
	return ref && objects.Has(hand.To)
}
