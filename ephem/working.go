package ephem

import (
	"math/bits"
	"slices"

	"besom/api"
)

const (
	leastSlots = 8

	// factor spreads keys that are near each other over all slots.
	factor = 11400714819323198485
)

// working is a table at work. Its methods rely on a valid one, but for those by which view finds out whether it is.
type working struct {
	api.Ephem
}

// view returns a valid table at work. It shares the slots of t.
func view(t api.Ephem) (working, api.Errno) {
	w := working{t}
	if len(w.Slots) == 0 {
		return w, api.OK
	}
	if !sized(len(w.Slots)) || !w.sound() || !enough(w.free(), len(w.Slots)) {
		return working{}, api.ErrForm
	}
	return w, api.OK
}

// twin returns a copy with slots of its own.
func (w working) twin() working {
	w.Slots = slices.Clone(w.Slots)
	return w
}

// sized reports whether a table that is not empty may have n slots.
func sized(n int) bool {
	switch n {
	case 8, 16, 32, 64:
		return true
	}
	return false
}

// enough reports whether of n slots at least a quarter are free.
func enough(free, n int) bool {
	return free*4 >= n
}

// home is for sizes that are right: n is a power of two, so that its trailing zeros are log2(n).
func home(key uint64, n int) int {
	return int(key * factor >> (64 - bits.TrailingZeros(uint(n))))
}

// sound reports whether each slot is what its state says, and each key occurs once, where it is found.
func (w working) sound() bool {
	for i, s := range w.Slots {
		switch s.State {
		case api.EphUsed:
			// A search ends at the first slot with the key, and at a free one: it tells of a second slot, and of a free one before.
			if s.Key == 0 || w.find(s.Key) != i {
				return false
			}
		case api.EphFree, api.EphGone:
			if s != (api.EphSlot{State: s.State}) {
				return false
			}
		default:
			return false
		}
	}
	return true
}

// find returns the slot with a key, or -1.
func (w working) find(key uint64) int {
	at := w.search(key, func(s api.EphSlot) bool {
		return s.State == api.EphFree || s.State == api.EphUsed && s.Key == key
	})
	if at < 0 || w.Slots[at].State == api.EphFree {
		return -1
	}
	return at
}

// place returns the slot where a key that is not in the table belongs, or -1.
func (w working) place(key uint64) int {
	return w.search(key, func(s api.EphSlot) bool {
		return s.State != api.EphUsed
	})
}

// search returns the first slot, from the home of a key on, that is one of those that are wanted, or -1.
func (w working) search(key uint64, wanted func(s api.EphSlot) bool) int {
	n := len(w.Slots)
	for i := range n {
		at := (home(key, n) + i) % n
		if wanted(w.Slots[at]) {
			return at
		}
	}
	return -1
}

// free returns the number of slots that are EphFree.
func (w working) free() int {
	n := 0
	for _, s := range w.Slots {
		if s.State == api.EphFree {
			n++
		}
	}
	return n
}

// used returns copies of the slots that contain a key, in order.
func (w working) used() []api.EphSlot {
	var out []api.EphSlot
	for _, s := range w.Slots {
		if s.State == api.EphUsed {
			out = append(out, s)
		}
	}
	return out
}

// accepts reports whether the table has enough free slots when a new key is inserted.
func (w working) accepts(key uint64) bool {
	at := w.place(key)
	if at < 0 {
		return false
	}
	free := w.free()
	if w.Slots[at].State == api.EphFree {
		free--
	}
	return enough(free, len(w.Slots))
}

// insert stores a key that is not in the table. There is a slot for it, because a table always has free ones.
func (w working) insert(key, val uint64) {
	w.Slots[w.place(key)] = api.EphSlot{State: api.EphUsed, Key: key, Val: val}
}

// rebuilt returns a table of the same keys that has no deleted ones, and room for one more.
func (w working) rebuilt() (working, api.Errno) {
	used := w.used()
	n := leastSlots
	for n < 2*(len(used)+1) {
		n *= 2
	}
	if n > api.MaxEphem {
		return working{}, api.ErrFull
	}
	anew := working{api.Ephem{Slots: make([]api.EphSlot, n)}}
	for _, s := range used {
		anew.insert(s.Key, s.Val)
	}
	return anew, api.OK
}
