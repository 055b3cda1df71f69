// Package arena implements the memory of the heap: an array of words, outside of which nothing is accessed.
package arena

import "besom/api"

// Check returns ErrForm if a is not valid.
func Check(a api.Arena) api.Errno {
	if len(a.Words) > api.MaxWords {
		return api.ErrForm
	}
	return api.OK
}

// Make returns an arena of n words, all 0.
func Make(n int) (api.Arena, api.Errno) {
	if n < 0 || n > api.MaxWords {
		return api.Arena{}, api.ErrRange
	}
	return api.Arena{Words: make([]uint64, n)}, api.OK
}

// Load returns word i.
func Load(a api.Arena, i uint64) (uint64, api.Errno) {
	if why := Check(a); why != api.OK {
		return 0, why
	}
	if !fits(a, i, 1) {
		return 0, api.ErrRange
	}
	return a.Words[i], api.OK
}

// Store returns a copy of a in which word i is w.
func Store(a api.Arena, i, w uint64) (api.Arena, api.Errno) {
	return changed(a, fits(a, i, 1), func(words []uint64) {
		words[i] = w
	})
}

// Clear returns a copy of a in which the n words from word from on are 0.
func Clear(a api.Arena, from, n uint64) (api.Arena, api.Errno) {
	return changed(a, fits(a, from, n), func(words []uint64) {
		clear(words[from : from+n])
	})
}

// Move returns a copy of a in which the n words from word to on are those that a has from word from on.
func Move(a api.Arena, to, from, n uint64) (api.Arena, api.Errno) {
	return changed(a, fits(a, to, n) && fits(a, from, n), func(words []uint64) {
		copy(words[to:to+n], a.Words[from:from+n])
	})
}

// Sum returns the sum of the words with the indices parts, modulo 2^64.
func Sum(a api.Arena, parts ...uint64) (uint64, api.Errno) {
	// Without parts nothing is loaded, and so nothing else would check a.
	if why := Check(a); why != api.OK {
		return 0, why
	}
	sum := uint64(0)
	for _, i := range parts {
		w, why := Load(a, i)
		if why != api.OK {
			return 0, why
		}
		sum += w
	}
	return sum, api.OK
}

// fits reports whether a has n words from word from on. It does not add n to from, because the sum of large numbers wraps round.
func fits(a api.Arena, from, n uint64) bool {
	size := uint64(len(a.Words))
	return from <= size && n <= size-from
}

// changed returns a copy of a that do has changed, unless what do accesses is out of range.
func changed(a api.Arena, inRange bool, do func(words []uint64)) (api.Arena, api.Errno) {
	if why := Check(a); why != api.OK {
		return api.Arena{}, why
	}
	words := make([]uint64, len(a.Words))
	copy(words, a.Words)
	if !inRange {
		return api.Arena{Words: words}, api.ErrRange
	}
	do(words)
	return api.Arena{Words: words}, api.OK
}
