package model_test

import (
	"slices"
	"testing"

	"besom/api"
	"besom/ephem"
	"besom/heap"
	"besom/model"
)

func reach(t *testing.T, s scene) []uint64 {
	t.Helper()
	out, why := model.Reach(s.h, s.roots, s.t)
	if why != api.OK {
		t.Fatalf("Reach from %d: error %d", s.roots, why)
	}
	return out
}

// within reports whether all of the list are in another one.
func within(l, other []uint64) bool {
	return !slices.ContainsFunc(l, func(addr uint64) bool { return !slices.Contains(other, addr) })
}

// 11.4

// TestClosed: the roots are reachable, and so is all that a reachable object refers to, and the value of a reachable key; from what is reachable nothing else is.
func TestClosed(t *testing.T) {
	for i, s := range scenes(150) {
		got := reach(t, s)
		in := append([]uint64{0}, got...)
		if !within(s.roots, in) {
			t.Fatalf("scene %d: a root of %d is not in %d", i, s.roots, got)
		}
		for _, addr := range got {
			shape, why := heap.At(s.h, addr)
			if why != api.OK {
				t.Fatalf("scene %d: %d is no object", i, addr)
			}
			for field := range shape.N {
				if w, ref, _ := heap.Load(s.h, addr, field); ref && !slices.Contains(in, w) {
					t.Fatalf("scene %d: %d refers to %d, which is not in %d", i, addr, w, got)
				}
			}
			if val, why := ephem.Get(s.t, addr); why == api.OK && !slices.Contains(in, val) {
				t.Fatalf("scene %d: %d has the value %d, which is not in %d", i, addr, val, got)
			}
		}
		again := s
		again.roots = got
		if more := reach(t, again); !slices.Equal(more, got) {
			t.Fatalf("scene %d: from %d, %d", i, got, more)
		}
	}
}

// TestAscending: what is reachable is in ascending order, and each object once.
func TestAscending(t *testing.T) {
	for i, s := range scenes(150) {
		s.roots = slices.Concat(s.roots, s.roots)
		slices.Reverse(s.roots)
		got := reach(t, s)
		for k := range got {
			if k > 0 && got[k-1] >= got[k] {
				t.Fatalf("scene %d: %d", i, got)
			}
		}
	}
}

// 11.5

// TestLeast: without a root, nothing is reachable that was not with it; without any, nothing is.
func TestLeast(t *testing.T) {
	for i, s := range scenes(150) {
		got := reach(t, s)
		for k := range s.roots {
			fewer := s
			fewer.roots = slices.Delete(slices.Clone(s.roots), k, k+1)
			if less := reach(t, fewer); !within(less, got) {
				t.Fatalf("scene %d: from %d, %d; from %d, %d", i, s.roots, got, fewer.roots, less)
			}
		}
		none := s
		none.roots = nil
		if l := reach(t, none); len(l) != 0 {
			t.Fatalf("scene %d: without roots, %d", i, l)
		}
	}
}

// 11.6

// TestKept: what is live is kept; an object whose finalizer is run is kept, and not live; each cleanup that is run is of an object that is not kept.
func TestKept(t *testing.T) {
	for i, s := range scenes(150) {
		f, why := model.Fate(s.h, s.roots, s.t, s.l)
		if why != api.OK || !slices.Equal(f.Live, reach(t, s)) || !within(f.Live, f.Kept) {
			t.Fatalf("scene %d: %v, error %d", i, f, why)
		}
		more := s
		more.roots = slices.Clone(s.roots)
		for _, x := range f.Finals {
			if x.Kind != api.SpecialFinal || !slices.Contains(f.Kept, x.Addr) || slices.Contains(f.Live, x.Addr) {
				t.Fatalf("scene %d: %v in %v", i, x, f)
			}
			more.roots = append(more.roots, x.Addr)
		}
		if l := reach(t, more); !slices.Equal(l, f.Kept) {
			t.Fatalf("scene %d: %v; with the objects of its finalizers, %d", i, f, l)
		}
		for _, x := range f.Cleans {
			if x.Kind != api.SpecialClean || slices.Contains(f.Kept, x.Addr) {
				t.Fatalf("scene %d: %v in %v", i, x, f)
			}
		}
	}
}
