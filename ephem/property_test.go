package ephem_test

import (
	"maps"
	"math"
	"slices"
	"testing"

	"besom/api"
	"besom/ephem"
	"besom/sample"
)

// play changes a table by calls that are chosen by a sequence of numbers, and remembers what is in it.
type play struct {
	*testing.T
	e     api.Ephem
	state uint64
	keys  []uint64
	vals  map[uint64]uint64
}

func (p *play) pick(n int) int {
	p.state = p.state*6364136223846793005 + 1442695040888963407
	return int(p.state >> 33 % uint64(n))
}

func (p *play) one() uint64 {
	return p.keys[p.pick(len(p.keys))]
}

func (p *play) put() {
	key, val := p.one(), p.state
	want, no := filled(p.e, key, val)
	out, why := ephem.Put(p.e, key, val)
	if !same(out, want) || why != no {
		p.Fatalf("Put of %d in %v: %v, error %d; want %v, %d", key, p.e, out, why, want, no)
	}
	if why == api.OK {
		p.vals[key] = val
	}
	p.e = out
}

func (p *play) del() {
	var l []uint64
	for range p.pick(4) {
		l = append(l, p.one())
	}
	want, m := deleted(p.e, l...)
	out, n, why := ephem.Del(p.e, l...)
	if !same(out, want) || n != m || why != api.OK {
		p.Fatalf("Del of %d in %v: %v, %d, error %d; want %v, %d", l, p.e, out, n, why, want, m)
	}
	for _, key := range l {
		delete(p.vals, key)
	}
	p.e = out
}

// compare tests that the table is valid and has what is remembered.
func (p *play) compare() {
	if !valid(p.e) || ephem.Check(p.e) != api.OK {
		p.Fatalf("not valid: %v", p.e)
	}
	for _, key := range p.keys {
		want, in := p.vals[key]
		no := api.OK
		if !in {
			no = api.ErrNone
		}
		if val, why := ephem.Get(p.e, key); val != want || why != no {
			p.Fatalf("Get of %d in %v: %d, error %d; want %d, %d", key, p.e, val, why, want, no)
		}
	}
	keys, vals, why := ephem.All(p.e)
	if !slices.Equal(keys, slices.Sorted(maps.Keys(p.vals))) || len(vals) != len(keys) || why != api.OK {
		p.Fatalf("All of %v: %d, %d, error %d", p.e, keys, vals, why)
	}
	for i, key := range keys {
		if vals[i] != p.vals[key] {
			p.Fatalf("All of %v: %d has %d; want %d", p.e, key, vals[i], p.vals[key])
		}
	}
}

// 10.5 and 10.6

// TestAsMap: whatever is put and deleted, the table is valid and answers as a map does. Some of the keys are at home in one slot, go round the end, or are too many.
func TestAsMap(t *testing.T) {
	var many []uint64
	for key := range uint64(70) {
		many = append(many, 16*(key+1))
	}
	for i, keys := range [][]uint64{
		{1, 2, 3},
		{1, 2, 3, 4, 5, 6, 7, math.MaxUint64, 1 << 63},
		sample.KeysAt(7, 8, 1, 7),
		append(sample.KeysAt(7, 8, 1, 3), sample.KeysAt(0, 8, 1, 3)...),
		sample.KeysAt(15, 16, 1, 14),
		sample.KeysAt(63, 64, 1, 60),
		many[:20],
		many[:48],
		many,
	} {
		for seed := range uint64(6) {
			p := &play{T: t, state: seed*100 + uint64(i), keys: keys, vals: map[uint64]uint64{}}
			for step := range 400 {
				// Now there are more keys, and now fewer.
				if p.pick(8) < 6-step/100%2*3 {
					p.put()
				} else {
					p.del()
				}
				p.compare()
			}
		}
	}
}

// TestOthersStay: Put and Del of a key leave all other keys and values as they were.
func TestOthersStay(t *testing.T) {
	for i, e := range sample.Ephems() {
		in, _ := pairs(e)
		for _, key := range append(keys(), in...) {
			put, _ := ephem.Put(e, key, 12345)
			del, _, _ := ephem.Del(e, key)
			for _, other := range in {
				if other == key {
					continue
				}
				want, _ := got(e, other)
				a, why := ephem.Get(put, other)
				b, no := ephem.Get(del, other)
				if a != want || b != want || why != api.OK || no != api.OK {
					t.Fatalf("table %d, %d: the value of %d is %d and %d; want %d", i, key, other, a, b, want)
				}
			}
		}
	}
}

// TestRight: from a valid table every call makes a valid one, with an error, too.
func TestRight(t *testing.T) {
	for i, e := range sample.Ephems() {
		for _, key := range keys() {
			out, _ := ephem.Put(e, key, key)
			if why := ephem.Check(out); why != api.OK || !valid(out) {
				t.Errorf("Put in table %d, %d: %v is not valid", i, key, out)
			}
		}
		for k, l := range lists() {
			out, _, _ := ephem.Del(e, l...)
			if why := ephem.Check(out); why != api.OK || !valid(out) {
				t.Errorf("Del in table %d, list %d: %v is not valid", i, k, out)
			}
		}
	}
}
