package ephem_test

import (
	"math"
	"slices"

	"besom/api"
	"besom/sample"
)

// What the chapter's words say of a table, written down once more, and without regard for speed.

func same(a, b api.Ephem) bool {
	return sample.SameEphems(a, b)
}

func used(key, val uint64) api.EphSlot {
	return api.EphSlot{State: api.EphUsed, Key: key, Val: val}
}

func gone() api.EphSlot {
	return api.EphSlot{State: api.EphGone}
}

func count(t api.Ephem, state api.EphState) int {
	n := 0
	for _, s := range t.Slots {
		if s.State == state {
			n++
		}
	}
	return n
}

func slotOf(t api.Ephem, key uint64) int {
	return slices.IndexFunc(t.Slots, func(s api.EphSlot) bool { return s.State == api.EphUsed && s.Key == key })
}

func valid(t api.Ephem) bool {
	n := len(t.Slots)
	if n == 0 {
		return true
	}
	if !slices.Contains([]int{8, 16, 32, 64}, n) || count(t, api.EphFree) < n/4 {
		return false
	}
	for i, s := range t.Slots {
		if s.State > api.EphGone || s.State != api.EphUsed && (s.Key != 0 || s.Val != 0) {
			return false
		}
		if s.State == api.EphUsed && !placed(t, i) {
			return false
		}
	}
	return true
}

// placed: the key of a slot occurs in no other one, and no slot from its home up to it is free.
func placed(t api.Ephem, i int) bool {
	key := t.Slots[i].Key
	for k, s := range t.Slots {
		if k != i && s.State == api.EphUsed && s.Key == key {
			return false
		}
	}
	for at := sample.Home(key, len(t.Slots)); at != i; at = (at + 1) % len(t.Slots) {
		if t.Slots[at].State == api.EphFree {
			return false
		}
	}
	return key > 0
}

// got is what Get answers.
func got(t api.Ephem, key uint64) (uint64, api.Errno) {
	if key == 0 {
		return 0, api.ErrNil
	}
	at := slotOf(t, key)
	if at < 0 {
		return 0, api.ErrNone
	}
	return t.Slots[at].Val, api.OK
}

// filled is what Put answers.
func filled(t api.Ephem, key, val uint64) (api.Ephem, api.Errno) {
	if key == 0 {
		return t, api.ErrNil
	}
	out := sample.CopyEphem(t)
	if at := slotOf(t, key); at >= 0 {
		out.Slots[at].Val = val
		return out, api.OK
	}
	if len(t.Slots) > 0 {
		sample.Insert(out.Slots, key, val)
		if count(out, api.EphFree) >= len(out.Slots)/4 {
			return out, api.OK
		}
	}
	for _, n := range []int{8, 16, 32, 64} {
		if n >= 2*(count(t, api.EphUsed)+1) {
			return anew(n, append(slices.Clone(t.Slots), used(key, val))), api.OK
		}
	}
	return t, api.ErrFull
}

// anew is a table of n slots, into which the keys of other slots were inserted in order.
func anew(n int, from []api.EphSlot) api.Ephem {
	out := sample.Ephem(n)
	for _, s := range from {
		if s.State == api.EphUsed {
			sample.Insert(out.Slots, s.Key, s.Val)
		}
	}
	return out
}

// deleted is what Del answers.
func deleted(t api.Ephem, keys ...uint64) (api.Ephem, int) {
	out := sample.CopyEphem(t)
	n := 0
	for _, key := range keys {
		if at := slotOf(out, key); at >= 0 {
			out.Slots[at] = gone()
			n++
		}
	}
	return out, n
}

// pairs are the keys of a table in ascending order, and their values.
func pairs(t api.Ephem) (keys, vals []uint64) {
	for _, s := range t.Slots {
		if s.State == api.EphUsed {
			keys = append(keys, s.Key)
		}
	}
	slices.Sort(keys)
	for _, key := range keys {
		vals = append(vals, t.Slots[slotOf(t, key)].Val)
	}
	return keys, vals
}

// keys are keys in and beside the tables, and at the ends of their type.
func keys() []uint64 {
	out := []uint64{0, 99, 1 << 31, 1 << 32, 1<<32 + 16, 1<<63 - 1, 1 << 63, 1<<63 + 1, math.MaxUint64 - 1, math.MaxUint64}
	for key := range uint64(50) {
		out = append(out, key)
	}
	for _, n := range []int{8, 16, 64} {
		out = append(out, sample.KeysAt(n-1, n, 1000, 2)...)
	}
	return out
}

// vals are values at the ends of their type and between.
func vals() []uint64 {
	return []uint64{0, 1, 1 << 63, math.MaxUint64}
}

// lists are lists of keys to delete.
func lists() [][]uint64 {
	return [][]uint64{
		nil, {}, {0}, {1}, {2, 2, 99}, {0, 0, 3, 3, 3, 0}, {6, 5, 4, 3, 2, 1}, {math.MaxUint64, 1 << 63, 1 << 32}, {98, 99, 100},
		slices.Repeat([]uint64{4, 0, 77}, 300), sample.KeysAt(7, 8, 1, 4), sample.KeysAt(15, 16, 1, 20), keys(),
	}
}
