package sample

import (
	"math"
	"slices"
)

// Rising returns n numbers, from first on.
func Rising(first uint64, n int) []uint64 {
	out := make([]uint64, n)
	for i := range out {
		out[i] = first + uint64(i)
	}
	return out
}

// WeakTables returns valid tables of weak handles.
func WeakTables() [][]uint64 {
	full := Rising(16, 64)
	holes := slices.Clone(full)
	for i := 0; i < len(holes); i += 3 {
		holes[i] = 0
	}
	return [][]uint64{
		nil,
		{16, 20},
		{0},
		{0, 0, 0},
		{1},
		{math.MaxUint64},
		{0, 20, 16},
		{20, 0, 16, 0},
		{math.MaxUint64, 1 << 63, 1<<32 + 16, 1 << 32, 16, 1},
		full,
		full[1:],
		full[2:],
		holes,
		holes[:62],
		make([]uint64, 64),
		make([]uint64, 63),
		append(make([]uint64, 63), 16),
	}
}

// BadWeakTables returns tables of weak handles that are not valid, each for a reason of its own.
func BadWeakTables() [][]uint64 {
	full := Rising(1, 64)
	ends := slices.Clone(full)
	ends[63] = ends[0]
	return [][]uint64{
		{5, 0, 0, 5},
		{16, 16},
		{16, 20, 16},
		{16, 20, 20},
		{0, 16, 0, 0, 20, 16, 0},
		{math.MaxUint64, 1, math.MaxUint64},
		ends,
		append(full, 65),
		append(full, 0),
		append(full, 1),
		make([]uint64, 65),
		make([]uint64, 128),
		Rising(1, 1000),
	}
}
