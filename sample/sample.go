// Package sample builds the values that the tests of several packages try. It follows the document's words and calls package api alone, so that what a test expects does not come from what it tests.
package sample

import (
	"math"
	"slices"

	"besom/api"
)

// Ints returns numbers that are no index of bits, or that a careless sum wraps round.
func Ints() []int {
	return []int{math.MinInt, math.MinInt + 1, -4097, -65, -64, -1, 4097, 1 << 32, math.MaxInt - 1, math.MaxInt}
}

// Pack returns the bit vector whose bits are l.
func Pack(l []bool) api.Bits {
	b := api.Bits{N: len(l), W: make([]uint64, (len(l)+63)/64)}
	for i, v := range l {
		if v {
			b.W[i/64] += 1 << (i % 64)
		}
	}
	return b
}

// SameBits reports whether two vectors are alike; a nil list is an empty one.
func SameBits(a, b api.Bits) bool {
	return a.N == b.N && slices.Equal(a.W, b.W)
}

// BadBits returns vectors that are not valid, each for a reason of its own.
func BadBits() []api.Bits {
	return []api.Bits{
		{N: -1},
		{N: -1, W: []uint64{0}},
		{N: -64},
		{N: -64, W: []uint64{0}},
		{N: math.MinInt},
		{N: math.MaxInt},
		{N: 1},
		{N: 0, W: []uint64{0}},
		{N: 1, W: []uint64{0, 0}},
		{N: 64},
		{N: 64, W: []uint64{0, 0}},
		{N: 65, W: []uint64{0}},
		{N: 70, W: []uint64{0, 0, 0}},
		{N: 1, W: []uint64{2}},
		{N: 4, W: []uint64{16}},
		{N: 4, W: []uint64{1 << 63}},
		{N: 63, W: []uint64{1 << 63}},
		{N: 65, W: []uint64{0, 2}},
		{N: 70, W: []uint64{0, 1 << 6}},
		{N: 70, W: []uint64{0, 1 << 63}},
		{N: 4095, W: append(make([]uint64, 63), 1<<63)},
		{N: 4097, W: make([]uint64, 65)},
		{N: 4160, W: make([]uint64, 65)},
		{N: 4096, W: make([]uint64, 63)},
		{N: 4096, W: make([]uint64, 65)},
	}
}

// Patterns returns bits of each of the sizes, in several patterns.
func Patterns(sizes ...int) [][]bool {
	state := uint64(1)
	patterns := []func(i int) bool{
		func(i int) bool { return false },
		func(i int) bool { return true },
		func(i int) bool { return i%2 == 0 },
		func(i int) bool { return i%7 == 3 },
		func(i int) bool { return i/5%2 == 1 },
		func(i int) bool { return i < 60 || i >= 66 },
		func(i int) bool {
			state = state*6364136223846793005 + 1442695040888963407
			return state>>33%3 == 0
		},
	}
	var out [][]bool
	for _, n := range sizes {
		for _, p := range patterns {
			l := make([]bool, n)
			for i := range l {
				l[i] = p(i)
			}
			out = append(out, l)
		}
	}
	return out
}
