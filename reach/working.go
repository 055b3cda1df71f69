package reach

import (
	"slices"

	"besom/api"
	"besom/barrier"
	"besom/ephem"
	"besom/mark"
	"besom/plain"
	"besom/special"
	"besom/weak"
)

// working is a valid collected heap at work. Its methods call the layers below only with what these do not refuse in one, so that there is no error to hand on but that the queue is full.
type working struct {
	api.Gc
}

// view returns a valid collected heap. It shares the memory of g.
func view(g api.Gc) (working, api.Errno) {
	w := working{g}
	// The later of these rely on the earlier ones: without valid parts there are no addresses to ask for.
	if !w.parted() || !w.phased() || !w.queued() || !w.owned() || !w.dark() {
		return working{}, api.ErrForm
	}
	return w, api.OK
}

// twin returns a copy with memory of its own.
func (w working) twin() working {
	return working{plain.Gc(w.Gc)}
}

// whites returns a function that reports whether an object is white. It goes by the marks as they are now.
func (w working) whites() func(addr uint64) bool {
	marked := plain.SetOf(len(w.Marker.Heap.Arena.Words), plain.Marked(w.Marker.Heap))
	return func(addr uint64) bool {
		return !marked.Has(addr)
	}
}

// shade shades objects with worker 0, whom every marker has, and returns how many of them were white.
func (w *working) shade(addrs ...uint64) int {
	m, n, _ := barrier.Shade(w.Marker, 0, addrs...)
	w.Marker = m
	return n
}

func (w *working) start() {
	w.Marker, _ = barrier.Start(w.Marker)
	w.Phase = api.PhaseMark
	w.shade(needed(w.Queue)...)
}

// needed returns the addresses of the objects of the items: 0 for a cleanup, which has none.
func needed(items []api.Item) []uint64 {
	var addrs []uint64
	for _, item := range items {
		addrs = append(addrs, item.Addr)
	}
	return addrs
}

// finishable reports whether there is marking to be ended, and nothing left to be marked.
func (w working) finishable() bool {
	done, _ := mark.Done(w.Marker)
	return w.marking() && done
}

// finish executes one step of ending the marking. With an error it changes nothing.
func (w *working) finish() (int, api.Errno) {
	white := w.whites()
	if vals := w.values(white); len(vals) > 0 {
		return w.shade(vals...), api.OK
	}
	if w.Phase == api.PhaseMark {
		return w.late(white)
	}
	return w.stop(white)
}

// values returns the white values of the keys that are not white, in the order of these.
func (w working) values(white func(addr uint64) bool) []uint64 {
	keys, vals, _ := ephem.All(w.Table)
	var out []uint64
	for i, val := range vals {
		if val != 0 && white(val) && !white(keys[i]) {
			out = append(out, val)
		}
	}
	return out
}

// late goes on with what finalizers need: weak handles do not lead to it.
func (w *working) late(white func(addr uint64) bool) (int, api.Errno) {
	items, why := w.enqueue(api.SpecialFinal, white)
	if why != api.OK {
		return 0, why
	}
	w.Phase = api.PhaseLate
	w.Weak, _, _ = weak.Clear(w.Weak, those(w.Weak, white)...)
	w.shade(needed(items)...)
	return len(items), api.OK
}

// stop ends the marking: what is white ceases to exist.
func (w *working) stop(white func(addr uint64) bool) (int, api.Errno) {
	items, why := w.enqueue(api.SpecialClean, white)
	if why != api.OK {
		return 0, why
	}
	w.Phase = api.PhaseSweep
	keys, _, _ := ephem.All(w.Table)
	w.Table, _, _ = ephem.Del(w.Table, those(keys, white)...)
	w.Marker, _ = barrier.Stop(w.Marker)
	return len(items), api.OK
}

// enqueue removes the specials of a kind whose objects are white, and appends them to the queue as items, which it returns. With an error it changes nothing.
func (w *working) enqueue(kind api.SpecialKind, white func(addr uint64) bool) ([]api.Item, api.Errno) {
	addrs, _ := special.Addrs(w.Specials, kind)
	left := w.Specials
	var items []api.Item
	for _, addr := range those(addrs, white) {
		var taken []api.Special
		left, taken, _ = special.Take(left, addr, kind)
		items = append(items, itemsOf(taken)...)
	}
	if len(w.Queue)+len(items) > api.MaxQueue {
		return nil, api.ErrFull
	}
	w.Specials, w.Queue = left, append(w.Queue, items...)
	return items, api.OK
}

// itemsOf returns the specials as items.
func itemsOf(l []api.Special) []api.Item {
	var items []api.Item
	for _, s := range l {
		item := api.Item{Kind: s.Kind, Addr: s.Addr, Tag: s.Tag}
		if s.Kind == api.SpecialClean {
			// A cleanup is run when its object does not exist any more.
			item.Addr = 0
		}
		items = append(items, item)
	}
	return items
}

// those returns the addresses that are wanted, in order.
func those(addrs []uint64, wanted func(addr uint64) bool) []uint64 {
	return slices.DeleteFunc(slices.Clone(addrs), func(addr uint64) bool {
		return !wanted(addr)
	})
}
