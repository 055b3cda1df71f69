package trace

import (
	"iter"

	"besom/api"
)

// The checksum is FNV-1a, of 64 bits.
const (
	fnvBegin = 14695981039346656037
	fnvPrime = 1099511628211
)

// checksum is that of the numbers that were added so far.
type checksum uint64

// sumOf returns the checksum of a valid machine.
func sumOf(v api.Vm) uint64 {
	c := checksum(fnvBegin)
	c.gc(v.Runtime.Gc)
	list(&c, v.Runtime.Mutators, (*checksum).mutator)
	list(&c, v.Threads, (*checksum).thread)
	return uint64(c)
}

// octets supplies the bytes of a number, the least significant one first.
func octets(n uint64) iter.Seq[byte] {
	return func(yield func(b byte) bool) {
		for i := range 8 {
			if !yield(byte(n >> (8 * i))) {
				return
			}
		}
	}
}

func flag(on bool) uint64 {
	if on {
		return 1
	}
	return 0
}

// add adds numbers.
func (c *checksum) add(numbers ...uint64) {
	for _, n := range numbers {
		for b := range octets(n) {
			*c = (*c ^ checksum(b)) * fnvPrime
		}
	}
}

// list adds the number of elements of a list, and then each element as add does.
func list[T any](c *checksum, l []T, add func(c *checksum, x T)) {
	c.add(uint64(len(l)))
	for _, x := range l {
		add(c, x)
	}
}

func (c *checksum) gc(g api.Gc) {
	c.add(uint64(g.Phase), flag(g.Marker.On))
	c.heap(g.Marker.Heap)
	list(c, g.Marker.Grey.Queues, (*checksum).words)
	list(c, g.Marker.Hands, (*checksum).hand)
	list(c, g.Table.Slots, (*checksum).slot)
	list(c, g.Specials, (*checksum).special)
	c.words(g.Weak)
	list(c, g.Queue, (*checksum).item)
}

func (c *checksum) heap(h api.Heap) {
	c.words(h.Arena.Words)
	c.bits(h.Pages.Used)
	list(c, h.Spans, (*checksum).span)
}

func (c *checksum) words(l []uint64) {
	list(c, l, (*checksum).word)
}

func (c *checksum) word(w uint64) {
	c.add(w)
}

func (c *checksum) bits(b api.Bits) {
	c.add(uint64(b.N))
	c.words(b.W)
}

func (c *checksum) span(s api.Span) {
	c.add(uint64(s.First), uint64(s.Pages), uint64(s.Size))
	c.bits(s.Alloc)
	c.bits(s.Mark)
	c.add(flag(s.Swept))
}

func (c *checksum) hand(h api.Hand) {
	c.add(h.Obj, uint64(h.Field))
}

func (c *checksum) slot(s api.EphSlot) {
	c.add(uint64(s.State), s.Key, s.Val)
}

func (c *checksum) special(s api.Special) {
	c.add(s.Addr, uint64(s.Kind), s.Tag)
}

func (c *checksum) item(i api.Item) {
	c.add(uint64(i.Kind), i.Addr, i.Tag)
}

func (c *checksum) mutator(m api.Mutator) {
	c.add(flag(m.Scanned))
	list(c, m.Regs, (*checksum).reg)
}

func (c *checksum) reg(r api.Reg) {
	c.add(flag(r.Ref), r.W)
}

func (c *checksum) thread(t api.Thread) {
	c.add(uint64(t.Pc), flag(t.Halted), uint64(t.Err), t.Steps)
}
