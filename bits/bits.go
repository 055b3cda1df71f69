// Package bits implements bit vectors of up to api.MaxBits bits, which record what is in use and what is marked.
package bits

import "besom/api"

const wordBits = 64

// vector is a bit vector at work. It is made of valid bits alone, so that its methods do not check them again.
type vector struct {
	api.Bits
}

// view is for functions that only read: it shares the words of b.
func view(b api.Bits) (vector, api.Errno) {
	if why := Check(b); why != api.OK {
		return vector{}, why
	}
	return vector{b}, api.OK
}

// twin is for functions that change: it has words of its own.
func twin(b api.Bits) (vector, api.Errno) {
	v, why := view(b)
	if why != api.OK {
		return vector{}, why
	}
	v.W = make([]uint64, len(b.W))
	copy(v.W, b.W)
	return v, api.OK
}

func wordsFor(n int) int {
	return (n + wordBits - 1) / wordBits
}

func place(i int) (word int, mask uint64) {
	return i / wordBits, 1 << (i % wordBits)
}

func (v *vector) has(i int) bool {
	return i >= 0 && i < v.N
}

func (v *vector) at(i int) bool {
	word, mask := place(i)
	return v.W[word]&mask != 0
}

func (v *vector) set(i int, on bool) {
	word, mask := place(i)
	if on {
		v.W[word] |= mask
	} else {
		v.W[word] &^= mask
	}
}

// Check returns ErrForm if b is not valid.
func Check(b api.Bits) api.Errno {
	if b.N < 0 || b.N > api.MaxBits || len(b.W) != wordsFor(b.N) {
		return api.ErrForm
	}
	used := b.N % wordBits
	// A last word that is used as a whole has no bits behind the last one.
	if used != 0 && b.W[len(b.W)-1]>>used != 0 {
		return api.ErrForm
	}
	return api.OK
}

// Make returns n bits, all 0.
func Make(n int) (api.Bits, api.Errno) {
	if n < 0 || n > api.MaxBits {
		return api.Bits{}, api.ErrRange
	}
	return api.Bits{N: n, W: make([]uint64, wordsFor(n))}, api.OK
}

// Get reports whether bit i is 1.
func Get(b api.Bits, i int) (bool, api.Errno) {
	vec, why := view(b)
	if why != api.OK {
		return false, why
	}
	if !vec.has(i) {
		return false, api.ErrRange
	}
	return vec.at(i), api.OK
}

// Put returns a copy of b in which bit i is v.
func Put(b api.Bits, i int, v bool) (api.Bits, api.Errno) {
	return Fill(b, i, 1, v)
}

// Fill returns a copy of b in which the n bits from bit from on are v.
func Fill(b api.Bits, from, n int, v bool) (api.Bits, api.Errno) {
	vec, why := twin(b)
	if why != api.OK {
		return api.Bits{}, why
	}
	// from is subtracted, and n not added to it, because the sum of large numbers wraps round.
	if from < 0 || n < 0 || n > vec.N-from {
		return vec.Bits, api.ErrRange
	}
	for i := range n {
		vec.set(from+i, v)
	}
	return vec.Bits, api.OK
}

// Count returns how many bits are 1.
func Count(b api.Bits) (int, api.Errno) {
	vec, why := view(b)
	if why != api.OK {
		return 0, why
	}
	n := 0
	for i := range vec.N {
		if vec.at(i) {
			n++
		}
	}
	return n, api.OK
}

// First returns the index of the first bit from bit from on that is v.
func First(b api.Bits, from int, v bool) (int, api.Errno) {
	vec, why := view(b)
	if why != api.OK {
		return 0, why
	}
	if from < 0 || from > vec.N {
		return 0, api.ErrRange
	}
	for i := from; i < vec.N; i++ {
		if vec.at(i) == v {
			return i, api.OK
		}
	}
	return 0, api.ErrNone
}

// Run returns the index of the first of the first n consecutive bits that are all 0.
func Run(b api.Bits, n int) (int, api.Errno) {
	vec, why := view(b)
	if why != api.OK {
		return 0, why
	}
	if n < 1 {
		return 0, api.ErrRange
	}
	zeros := 0
	for i := range vec.N {
		if vec.at(i) {
			zeros = 0
			continue
		}
		zeros++
		if zeros == n {
			return i - n + 1, api.OK
		}
	}
	return 0, api.ErrNone
}

// Both returns the bits that are 1 in a and in b.
func Both(a, b api.Bits) (api.Bits, api.Errno) {
	both, why := twin(a)
	if why != api.OK {
		return api.Bits{}, why
	}
	other, why := view(b)
	if why != api.OK {
		return api.Bits{}, why
	}
	if both.N != other.N {
		return api.Bits{}, api.ErrForm
	}
	for i, w := range other.W {
		both.W[i] &= w
	}
	return both.Bits, api.OK
}
