package heap

import (
	"sync"

	"besom/api"
	"besom/head"
)

// reading is a working heap that nothing changes, so that its current objects are computed once, when they are first needed.
type reading struct {
	working
	once sync.Once
	list []object
	// numbers has, at the address of each of these objects, its place in the list, from 1 on.
	numbers []int
}

// read returns a valid heap to be read. It shares the memory of h.
func read(h api.Heap) (*reading, api.Errno) {
	w := working{h}
	// The later of these rely on the earlier ones: without valid spans there are no slots, and without valid headers no fields.
	if !w.framed() || !w.owned() || !w.filled() {
		return nil, api.ErrForm
	}
	r := &reading{working: w}
	if !r.linked() {
		return nil, api.ErrForm
	}
	return r, api.OK
}

// objects returns the current objects, in ascending order of their addresses.
func (r *reading) objects() []object {
	r.once.Do(r.collect)
	return r.list
}

func (r *reading) collect() {
	r.numbers = make([]int, len(r.Arena.Words))
	for o := range r.current() {
		r.list = append(r.list, o)
		r.numbers[o.addr] = len(r.list)
	}
}

// find returns the object at an address, or the address error.
func (r *reading) find(addr uint64) (object, api.Errno) {
	if addr == 0 {
		return object{}, api.ErrNil
	}
	l := r.objects()
	if addr >= uint64(len(r.numbers)) || r.numbers[addr] == 0 {
		return object{}, api.ErrDead
	}
	return l[r.numbers[addr]-1], api.OK
}

// exists reports whether a reference is to nothing, or to a current object.
func (r *reading) exists(ref uint64) bool {
	_, why := r.find(ref)
	return why == api.OK || why == api.ErrNil
}

// stays reports whether a reference is to nothing, or to a marked object.
func (r *reading) stays(ref uint64) bool {
	o, why := r.find(ref)
	return o.marked || why == api.ErrNil
}

// refers reports whether all references in the fields of an object are permitted.
func (r *reading) refers(o object, permitted func(ref uint64) bool) bool {
	for i, why := head.Next(o.shape, 0); why == api.OK; i, why = head.Next(o.shape, i+1) {
		if !permitted(r.word(o.field(i))) {
			return false
		}
	}
	return true
}

// linked reports whether all current objects refer to current objects alone.
func (r *reading) linked() bool {
	permitted := r.exists
	for o := range r.current() {
		if !r.refers(o, permitted) {
			return false
		}
	}
	return true
}

// closed reports whether all marked objects refer to marked objects alone.
func (r *reading) closed() bool {
	permitted := r.stays
	for o := range r.current() {
		if o.marked && !r.refers(o, permitted) {
			return false
		}
	}
	return true
}

// storable returns the object into whose field a word may be stored, or why it may not.
func (r *reading) storable(addr uint64, field int, word uint64, ref bool) (object, api.Errno) {
	o, why := r.find(addr)
	if why != api.OK {
		return object{}, why
	}
	holds, why := head.Ref(o.shape, field)
	if why != api.OK {
		return object{}, why
	}
	if holds != ref {
		return object{}, api.ErrType
	}
	if ref && !r.exists(word) {
		return object{}, api.ErrDead
	}
	return o, api.OK
}
