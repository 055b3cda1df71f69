package mut

import (
	"besom/api"
	"besom/barrier"
	"besom/ephem"
	"besom/heap"
	"besom/reach"
	"besom/special"
	"besom/sweep"
	"besom/weak"
)

// create allocates an object, and returns a reference to it. A collection is forced only when there is no room without.
func (w *working) create(s api.Shape) (api.Reg, api.Errno) {
	g, addr, why := sweep.Alloc(w.Gc, s)
	if why == api.ErrFull {
		if why := w.force(); why != api.OK {
			return api.Reg{}, why
		}
		g, addr, why = sweep.Alloc(w.Gc, s)
	}
	w.Gc = g
	return reference(addr), why
}

// load returns what a field of the object in a register contains.
func (w *working) load(from api.Reg, field int) (api.Reg, api.Errno) {
	addr, why := object(from)
	if why != api.OK {
		return api.Reg{}, why
	}
	word, ref, why := heap.Load(w.Gc.Marker.Heap, addr, field)
	if why != api.OK || !ref {
		return number(word), why
	}
	return w.refer(word), api.OK
}

// store stores what a register contains into a field of the object in another one.
func (w *working) store(to api.Reg, field int, reg api.Reg) api.Errno {
	addr, why := object(to)
	if why != api.OK {
		return why
	}
	w.Gc.Marker, why = barrier.Write(w.Gc.Marker, 0, addr, field, reg.W, reg.Ref)
	return why
}

// handle returns the number of the weak handle of the object in a register.
func (w *working) handle(reg api.Reg) (api.Reg, api.Errno) {
	addr, why := object(reg)
	if why != api.OK {
		return api.Reg{}, why
	}
	t, handle, why := weak.Make(w.Gc.Weak, addr)
	if why != api.OK {
		return api.Reg{}, why
	}
	w.Gc.Weak = t
	w.touch(addr)
	return number(uint64(handle)), api.OK
}

// upgrade returns a reference to the object to which the weak handle refers whose number is in a register.
func (w *working) upgrade(reg api.Reg) (api.Reg, api.Errno) {
	if reg.Ref {
		return api.Reg{}, api.ErrType
	}
	// This comes first, because a great number may be the number of a handle once it is an int.
	if reg.W > api.MaxWeak {
		return api.Reg{}, api.ErrNone
	}
	addr, why := weak.Get(w.Gc.Weak, int(reg.W))
	if why != api.OK {
		return api.Reg{}, why
	}
	return w.refer(addr), api.OK
}

// put makes what a register contains the value of the key in another one.
func (w *working) put(key, val api.Reg) api.Errno {
	addr, why := object(key)
	if why != api.OK {
		return why
	}
	if !val.Ref {
		return api.ErrType
	}
	w.Gc.Table, why = ephem.Put(w.Gc.Table, addr, val.W)
	if why != api.OK {
		return why
	}
	w.touch(addr, val.W)
	return api.OK
}

// get returns a reference to the value of the key in a register.
func (w *working) get(key api.Reg) (api.Reg, api.Errno) {
	addr, why := object(key)
	if why != api.OK {
		return api.Reg{}, why
	}
	val, why := ephem.Get(w.Gc.Table, addr)
	if why != api.OK {
		return api.Reg{}, why
	}
	return w.refer(val), api.OK
}

// del deletes the key in a register.
func (w *working) del(key api.Reg) api.Errno {
	addr, why := object(key)
	if why != api.OK {
		return why
	}
	t, n, _ := ephem.Del(w.Gc.Table, addr)
	if n == 0 {
		return api.ErrNone
	}
	w.Gc.Table = t
	return api.OK
}

// attach adds a special to the object in a register.
func (w *working) attach(reg api.Reg, kind api.SpecialKind, tag uint64) api.Errno {
	addr, why := object(reg)
	if why != api.OK {
		return why
	}
	// All specials that there are have to fit into the queue, so that none of them ever stands in the way of a collection.
	if room, _ := reach.Room(w.Gc); room < 1 {
		return api.ErrFull
	}
	w.Gc.Specials, why = special.Add(w.Gc.Specials, api.Special{Addr: addr, Kind: kind, Tag: tag})
	if why != api.OK {
		return why
	}
	w.touch(addr)
	return api.OK
}

// start begins a collection.
func (w *working) start() api.Errno {
	g, why := reach.Start(w.Gc)
	w.Gc = g
	return why
}
