package verify

import (
	"slices"

	"besom/api"
	"besom/arena"
	"besom/bits"
	"besom/head"
	"besom/pages"
	"besom/plain"
	"besom/span"
)

// examiner is a heap of which anything may be wrong.
type examiner struct {
	api.Heap
}

// object is an allocated slot.
type object struct {
	addr    uint64
	current bool
	// right is whether the first word is a header word that goes with the span.
	right bool
	shape api.Shape
	// words is how many words belong to the object. One that is not right can't tell, so that its whole slot is taken for them.
	words uint64
}

// sound reports whether an object may be referred to.
func (o object) sound() bool {
	return o.current && o.right
}

// faults returns the faults. Those of a kind are looked for only where the earlier kinds leave something to look at: without a frame there is no page in which a span could be, and without right spans there are no slots.
func (e examiner) faults() []api.Fault {
	if !e.framed() {
		return faultsAt(api.FaultFrame, 0)
	}
	if places := e.wrongSpans(); len(places) > 0 {
		return faultsAt(api.FaultSpan, places...)
	}
	return slices.Concat(
		faultsAt(api.FaultPage, e.wrongPages()...),
		faultsAt(api.FaultHead, e.wrongHeads()...),
		faultsAt(api.FaultRef, e.wrongRefs()...),
		faultsAt(api.FaultDirt, e.dirt()...),
	)
}

// faultsAt returns a fault of a kind at each of the places.
func faultsAt(kind api.FaultKind, places ...uint64) []api.Fault {
	var l []api.Fault
	for _, at := range places {
		l = append(l, api.Fault{Kind: kind, At: at})
	}
	return l
}

// framed reports whether the arena and the pages are valid, and belong together.
func (e examiner) framed() bool {
	if arena.Check(e.Arena) != api.OK || pages.Check(e.Pages) != api.OK {
		return false
	}
	count := e.Pages.Used.N
	return count > 0 && len(e.Arena.Words) == count*api.PageWords
}

// wrongSpans returns the indices of the spans that are not valid, or not where they may be.
func (e examiner) wrongSpans() []uint64 {
	var places []uint64
	// least is the first page that the next span may have.
	least := 1
	for at, s := range e.Spans[:min(len(e.Spans), api.MaxSpans)] {
		valid := span.Check(s) == api.OK
		if !valid || s.First < least || s.First+s.Pages > e.Pages.Used.N {
			places = append(places, uint64(at))
		}
		least = 1
		if valid {
			least = max(least, s.First+s.Pages)
		}
	}
	if len(e.Spans) > api.MaxSpans {
		places = append(places, api.MaxSpans)
	}
	return places
}

// wrongPages returns the pages that are in use and ought not to be, or the other way round.
func (e examiner) wrongPages() []uint64 {
	var places []uint64
	for page := range e.Pages.Used.N {
		if used, _ := bits.Get(e.Pages.Used, page); used != e.taken(page) {
			places = append(places, uint64(page))
		}
	}
	return places
}

// taken reports whether a page ought to be in use.
func (e examiner) taken(page int) bool {
	return page == 0 || slices.ContainsFunc(e.Spans, func(s api.Span) bool {
		return page >= s.First && page < s.First+s.Pages
	})
}

// wrongHeads returns the addresses of the objects whose first words are not right.
func (e examiner) wrongHeads() []uint64 {
	return addresses(e.objects(func(o object) bool {
		return !o.right
	}))
}

// wrongRefs returns the indices of the words that refer to what is no object.
func (e examiner) wrongRefs() []uint64 {
	var places []uint64
	l := e.objects(object.sound)
	known := plain.SetOf(len(e.Arena.Words), addresses(l))
	for _, o := range l {
		for field, why := head.Next(o.shape, 0); why == api.OK; field, why = head.Next(o.shape, field+1) {
			at := o.addr + 1 + uint64(field)
			if !known.HasAll(e.Arena.Words[at]) {
				places = append(places, at)
			}
		}
	}
	return places
}

// dirt returns the indices of the words that are not 0 and belong to nothing.
func (e examiner) dirt() []uint64 {
	var places []uint64
	owned := e.owned()
	for i, word := range e.Arena.Words {
		if at := uint64(i); word != 0 && !owned.Has(at) {
			places = append(places, at)
		}
	}
	return places
}

// owned are the words that belong to objects.
func (e examiner) owned() plain.Set {
	owned := plain.SetOf(len(e.Arena.Words), nil)
	for _, o := range e.objects(func(object) bool { return true }) {
		for i := range o.words {
			owned[o.addr+i] = true
		}
	}
	return owned
}

// objects returns the objects that are wanted, in ascending order of their addresses.
func (e examiner) objects(wanted func(o object) bool) []object {
	var l []object
	for at, s := range e.Spans {
		for slot, why := bits.First(s.Alloc, 0, true); why == api.OK; slot, why = bits.First(s.Alloc, slot+1, true) {
			if o := e.object(at, slot); wanted(o) {
				l = append(l, o)
			}
		}
	}
	return l
}

func (e examiner) object(at, slot int) object {
	s := e.Spans[at]
	addr, _ := span.Addr(s, slot)
	marked, _ := bits.Get(s.Mark, slot)
	o := object{addr: addr, current: s.Swept || marked, words: plain.SlotWords(s)}
	if shape, why := head.Unpack(e.Arena.Words[addr]); why == api.OK && plain.Fits(shape, s) {
		o.right, o.shape, o.words = true, shape, uint64(shape.N)+1
	}
	return o
}

func addresses(l []object) []uint64 {
	var addrs []uint64
	for _, o := range l {
		addrs = append(addrs, o.addr)
	}
	return addrs
}
