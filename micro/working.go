package micro

import (
	"slices"

	"besom/api"
	"besom/grey"
	"besom/head"
	"besom/plain"
)

// working is a valid value at work.
type working struct {
	api.Micro
}

// twin returns a copy with memory of its own.
func (w working) twin() working {
	w.Heap = plain.Heap(w.Heap)
	w.Marks = slices.Clone(w.Marks)
	w.Grey = plain.Grey(w.Grey)
	w.Hands = slices.Clone(w.Hands)
	return w
}

func (w working) has(worker int) bool {
	return worker >= 0 && worker < len(w.Hands)
}

// busy reports whether there is a step for a worker.
func (w working) busy(worker int) bool {
	return w.Hands[worker].Pc != api.MicroIdle || !plain.Empty(w.Grey)
}

func (w working) done() bool {
	return plain.Empty(w.Grey) && !slices.ContainsFunc(w.Hands, func(h api.MicroHand) bool {
		return h.Pc != api.MicroIdle
	})
}

// begin marks the roots that are not 0, and pushes each of them once.
func (w *working) begin(roots ...uint64) {
	var addrs []uint64
	for _, addr := range roots {
		if at, bit := markOf(addr); addr != 0 && w.Marks[at]&bit == 0 {
			w.Marks[at] |= bit
			addrs = append(addrs, addr)
		}
	}
	// There are fewer objects than a queue has room for, and none of these is in one.
	w.Grey, _ = grey.Push(w.Grey, 0, addrs...)
}

// run executes rounds of the workers until Done, and returns the number of the steps, and of swaps that were lost.
func (w *working) run(workers ...int) (steps, lost int) {
	plain.Rounds(len(w.Hands), workers, func(worker int) bool {
		if !w.busy(worker) {
			return false
		}
		if w.step(worker) == api.AccessLost {
			lost++
		}
		steps++
		return true
	})
	return steps, lost
}

// step executes the step that there is for a worker.
func (w *working) step(worker int) api.Access {
	hand := &w.Hands[worker]
	switch hand.Pc {
	case api.MicroIdle:
		return w.take(worker)
	case api.MicroHead:
		return w.enter(hand)
	case api.MicroField:
		return w.examine(hand)
	case api.MicroSeen:
		return w.see(hand)
	case api.MicroSwap:
		return w.swap(hand)
	}
	return w.push(worker)
}

// take takes an object from a queue, one of which is not empty.
func (w *working) take(worker int) api.Access {
	g, addr, _, _ := grey.Pop(w.Grey, worker)
	w.Grey, w.Hands[worker] = g, api.MicroHand{Pc: api.MicroHead, Obj: addr}
	return api.AccessQueue
}

// enter reads the header word of the object.
func (w *working) enter(hand *api.MicroHand) api.Access {
	hand.Shape, _ = head.Unpack(w.Heap.Arena.Words[hand.Obj])
	hand.Pc = api.MicroField
	return api.AccessArena
}

// examine reads the next field that holds a reference, or puts the object away if there is none.
func (w *working) examine(hand *api.MicroHand) api.Access {
	field, why := head.Next(hand.Shape, hand.Field)
	if why != api.OK {
		*hand = api.MicroHand{}
		return api.AccessNone
	}
	hand.Field = field
	to := w.Heap.Arena.Words[hand.Obj+1+uint64(field)]
	if to == 0 {
		pass(hand)
	} else {
		hand.To, hand.Pc = to, api.MicroSeen
	}
	return api.AccessArena
}

// see reads the word of marks that a swap would have to find again.
func (w *working) see(hand *api.MicroHand) api.Access {
	at, bit := markOf(hand.To)
	if w.Marks[at]&bit != 0 {
		pass(hand)
	} else {
		hand.Seen, hand.Pc = w.Marks[at], api.MicroSwap
	}
	return api.AccessMark
}

// swap marks the object, unless the word of marks changed since it was seen.
func (w *working) swap(hand *api.MicroHand) api.Access {
	at, bit := markOf(hand.To)
	seen := hand.Seen
	hand.Seen = 0
	if w.Marks[at] != seen {
		hand.Pc = api.MicroSeen
		return api.AccessLost
	}
	w.Marks[at] |= bit
	hand.Pc = api.MicroPush
	return api.AccessSwap
}

// push pushes the object that was marked.
func (w *working) push(worker int) api.Access {
	hand := &w.Hands[worker]
	// What is in a queue already, as in a value made by hand, is not pushed once more.
	w.Grey, _ = grey.Push(w.Grey, worker, hand.To)
	pass(hand)
	return api.AccessQueue
}

// pass goes on behind the field that was examined.
func pass(hand *api.MicroHand) {
	hand.Pc, hand.To = api.MicroField, 0
	hand.Field++
}
