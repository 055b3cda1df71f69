package verify

import (
	"besom/api"
	"besom/bits"
	"besom/plain"
	"besom/span"
)

// mend repairs all faults till there are none, and returns their number. The memory of the heap has to be its own.
func (e *examiner) mend() int {
	n := 0
	for l := e.faults(); len(l) > 0; l = e.faults() {
		for _, f := range l {
			e.repair(f)
		}
		n += len(l)
	}
	return n
}

// repair repairs a fault of any kind but FaultFrame and FaultSpan.
func (e *examiner) repair(f api.Fault) {
	switch f.Kind {
	case api.FaultPage:
		page := int(f.At)
		e.Pages.Used, _ = bits.Put(e.Pages.Used, page, e.taken(page))
	case api.FaultHead:
		e.free(f.At)
	default:
		e.Arena.Words[f.At] = 0
	}
}

// free makes the slot of an object one that is not allocated.
func (e *examiner) free(addr uint64) {
	at, slot, _ := span.Find(e.Spans, addr)
	s := &e.Spans[at]
	s.Alloc, _ = bits.Put(s.Alloc, slot, false)
	s.Mark, _ = bits.Put(s.Mark, slot, false)
	clear(e.Arena.Words[addr:][:plain.SlotWords(*s)])
}
