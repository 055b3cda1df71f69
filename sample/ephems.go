package sample

import (
	"math"
	"slices"

	"besom/api"
)

// Home returns the home of a key in a table of n slots: a number of log2(n) bits is left when all numbers are divided into n parts.
func Home(key uint64, n int) int {
	part := uint64(1) << 63 / uint64(n) * 2
	return int(key * 11400714819323198485 / part)
}

// KeysAt returns the first count keys, from first on, whose home in a table of n slots is home.
func KeysAt(home, n int, first uint64, count int) []uint64 {
	var out []uint64
	for key := first; len(out) < count; key++ {
		if key > 0 && Home(key, n) == home {
			out = append(out, key)
		}
	}
	return out
}

// Insert inserts a key that is not in the slots, of which one at least is not used.
func Insert(slots []api.EphSlot, key, val uint64) {
	at := Home(key, len(slots))
	for slots[at].State == api.EphUsed {
		at = (at + 1) % len(slots)
	}
	slots[at] = api.EphSlot{State: api.EphUsed, Key: key, Val: val}
}

// Ephem returns a table of n slots into which the keys were inserted, each with ten times itself as value. It does not ask whether such a table is valid.
func Ephem(n int, keys ...uint64) api.Ephem {
	slots := make([]api.EphSlot, n)
	for _, key := range keys {
		Insert(slots, key, key*10)
	}
	return api.Ephem{Slots: slots}
}

// Without returns the table, from which the keys were deleted.
func Without(t api.Ephem, keys ...uint64) api.Ephem {
	t = CopyEphem(t)
	for i, s := range t.Slots {
		if slices.Contains(keys, s.Key) && s.State == api.EphUsed {
			t.Slots[i] = api.EphSlot{State: api.EphGone}
		}
	}
	return t
}

// CopyEphem returns the table with slots of its own.
func CopyEphem(t api.Ephem) api.Ephem {
	return api.Ephem{Slots: slices.Clone(t.Slots)}
}

// SameEphems reports whether two tables are alike; a nil list is an empty one.
func SameEphems(a, b api.Ephem) bool {
	return slices.Equal(a.Slots, b.Slots)
}

// Ephems returns valid tables of ephemerons, small ones first.
func Ephems() []api.Ephem {
	// These keys go round the end of their table.
	last := KeysAt(7, 8, 1, 6)
	late := KeysAt(15, 16, 1, 12)
	large := []uint64{math.MaxUint64, 1 << 63, 1<<63 + 1, 1 << 32, 1<<32 + 16, 1}
	return []api.Ephem{
		{},
		Ephem(8),
		Ephem(64),
		Ephem(8, 1),
		Ephem(8, 1, 2, 3, 4, 5, 6),
		Without(Ephem(8, 1, 2, 3, 4, 5, 6), 2),
		Without(Ephem(8, 1, 2, 3, 4, 5, 6), 1, 2, 3, 4, 5, 6),
		Ephem(16, 1, 2, 3, 4, 5, 6, 7),
		Ephem(8, last...),
		Without(Ephem(8, last...), last[:3]...),
		Ephem(8, large...),
		Without(Ephem(16, large...), large[1:4]...),
		Ephem(16, late...),
		Without(Ephem(16, late...), late[0], late[4], late[11]),
		Ephem(32, Rising(1, 24)...),
		Without(Ephem(32, Rising(1, 24)...), Rising(3, 20)...),
		Ephem(64, Rising(1, 48)...),
		Ephem(64, Rising(1, 47)...),
		Without(Ephem(64, Rising(1, 48)...), 5),
		Without(Ephem(64, Rising(1, 48)...), Rising(10, 17)...),
		Without(Ephem(64, Rising(1, 48)...), Rising(1, 16)...),
		Without(Ephem(64, Rising(1, 48)...), Rising(1, 48)...),
		Without(Ephem(64, KeysAt(63, 64, 1, 48)...), KeysAt(63, 64, 1, 20)...),
	}
}

// BadEphems returns tables of ephemerons that are not valid, each for a reason of its own.
func BadEphems() []api.Ephem {
	var bad []api.Ephem
	for _, n := range []int{1, 2, 3, 4, 5, 6, 7, 9, 12, 15, 17, 24, 31, 33, 48, 63, 65, 100, 128, 256, 1024} {
		bad = append(bad, Ephem(n))
	}
	return slices.Concat(bad, badSlotsOfEphems(), badKeys(), fullEphems())
}

// badSlotsOfEphems are tables with a slot that no table has.
func badSlotsOfEphems() []api.Ephem {
	slots := []api.EphSlot{
		{Key: 1}, {Val: 1}, {Key: 1, Val: 10}, {Val: math.MaxUint64},
		{State: api.EphGone, Key: 1}, {State: api.EphGone, Val: 1}, {State: api.EphGone, Key: 1, Val: 10}, {State: api.EphGone, Val: 1 << 63},
		{State: api.EphUsed}, {State: api.EphUsed, Val: 10},
	}
	for _, state := range []api.EphState{api.EphCount, 4, 127, 128, 129, 255} {
		slots = append(slots, api.EphSlot{State: state}, api.EphSlot{State: state, Key: 1, Val: 10})
	}
	var bad []api.Ephem
	for _, s := range slots {
		one, more := Ephem(8), Ephem(16, 2, 3)
		at := slices.IndexFunc(more.Slots, func(s api.EphSlot) bool { return s.State == api.EphFree })
		// There the keys, and 0 if it were one, are at home, so that nothing else is wrong.
		one.Slots[Home(s.Key, 8)], more.Slots[at] = s, s
		bad = append(bad, one, more)
	}
	return bad
}

// badKeys are tables in which a key is where it is not found, or twice.
func badKeys() []api.Ephem {
	used := func(key uint64) api.EphSlot { return api.EphSlot{State: api.EphUsed, Key: key, Val: 7} }
	gone := api.EphSlot{State: api.EphGone}
	key := KeysAt(6, 8, 1, 2)
	return []api.Ephem{
		{Slots: []api.EphSlot{7: used(key[0])}},
		{Slots: []api.EphSlot{0: used(key[0]), 7: {}}},
		{Slots: []api.EphSlot{5: used(key[0]), 7: {}}},
		{Slots: []api.EphSlot{0: used(key[0]), 7: used(key[1])}},
		{Slots: []api.EphSlot{0: used(key[0]), 6: used(key[1]), 7: {}}},
		{Slots: []api.EphSlot{0: used(key[0]), 6: gone, 7: {}}},
		{Slots: []api.EphSlot{6: used(key[0]), 7: used(key[0])}},
		{Slots: []api.EphSlot{0: used(key[0]), 6: used(key[0]), 7: gone}},
		{Slots: []api.EphSlot{0: used(key[0]), 6: used(key[1]), 7: used(key[0])}},
		{Slots: []api.EphSlot{0: used(key[0]), 1: used(key[0]), 6: gone, 7: gone}},
		{Slots: []api.EphSlot{1: used(key[0]), 6: used(key[0]), 7: {}}},
	}
}

// fullEphems are tables of which less than a quarter of the slots are free.
func fullEphems() []api.Ephem {
	var bad []api.Ephem
	for _, n := range []int{8, 16, 32, 64} {
		for _, free := range []int{0, 1, n/4 - 1} {
			keys := Rising(1, n-free)
			full := Ephem(n, keys...)
			bad = append(bad, full, Without(full, keys[n/2:]...), Without(full, keys...))
		}
	}
	return bad
}
