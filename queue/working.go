package queue

import (
	"slices"

	"besom/api"
	"besom/plain"
	"besom/reach"
)

// working is a valid collected heap whose items are run.
type working struct {
	api.Gc
}

// view returns a valid collected heap. It shares the memory of g.
func view(g api.Gc) (working, api.Errno) {
	if why := reach.Check(g); why != api.OK {
		return working{}, why
	}
	return working{g}, api.OK
}

// twin returns a copy with memory of its own.
func (w working) twin() working {
	return working{plain.Gc(w.Gc)}
}

// run removes the first item, which there has to be, and runs it.
func (w *working) run() api.Ran {
	item := w.Queue[0]
	w.Queue = w.Queue[1:]
	run := runOf(item.Kind)
	return run(*w, item)
}

// runOf returns the method by which an item of a kind is run.
func runOf(kind api.SpecialKind) func(w working, item api.Item) api.Ran {
	if kind == api.SpecialFinal {
		return working.finalize
	}
	return working.cleanUp
}

// finalize runs a finalizer. Its object is current, as that of every finalizer that waits.
func (w working) finalize(item api.Item) api.Ran {
	_, fields := plain.Object(w.Marker.Heap, item.Addr)
	return api.Ran{Item: item, Fields: slices.Clone(fields)}
}

// cleanUp runs a cleanup, whose object does not exist any more.
func (w working) cleanUp(item api.Item) api.Ran {
	return api.Ran{Item: item}
}
