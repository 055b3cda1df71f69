package verify_test

import (
	"testing"

	"besom/api"
	"besom/heap"
	"besom/sample"
	"besom/verify"
)

// damaged are heaps of which some things are changed as it comes, with all kinds of faults that are repaired, and some with none.
func damaged(seed sample.Picks, n int) []api.Heap {
	p := seed
	var out []api.Heap
	for i := range n {
		out = append(out, sample.Damaged(&p, sample.Web(&p, 1+i%12), p.Below(12)))
	}
	return out
}

// broken are heaps whose arena, pages or spans are changed as it comes, and some other things as well.
func broken(seed sample.Picks, n int) []api.Heap {
	p := seed
	var out []api.Heap
	for i := range n {
		h := sample.Damaged(&p, sample.Web(&p, 1+i%12), p.Below(3))
		for range 1 + p.Below(3) {
			// What has no spans any more is not changed further.
			if len(h.Spans) > 0 {
				h = sample.Broken(&p, h)
			}
		}
		out = append(out, h)
	}
	return out
}

// TestAsItComes: the faults of heaps that are changed as it comes are as the chapter's words say.
func TestAsItComes(t *testing.T) {
	counts := map[api.FaultKind]int{}
	for _, h := range append(damaged(291, 3000), broken(292, 3000)...) {
		conform(t, "as it comes", h)
		for kind := range api.FaultCount {
			counts[kind] += min(verify.Count(h, kind), 1)
		}
		if verify.Worst(h) == api.FaultNone {
			counts[api.FaultNone]++
		}
	}
	for kind := range api.FaultCount {
		if counts[kind] < 200 {
			t.Error("too few of a kind:", counts)
		}
	}
}

// 29.4

// TestRight: a heap has no faults if and only if it is valid.
func TestRight(t *testing.T) {
	counts := map[api.Errno]int{}
	all := [][]api.Heap{sample.Heaps(), sample.BadHeaps(), sample.WovenHeaps(), damaged(293, 4000), broken(294, 2000)}
	for _, l := range all {
		for i, h := range l {
			none := len(verify.Faults(h)) == 0
			why := heap.Check(h)
			if none != (why == api.OK) || none != (verify.Worst(h) == api.FaultNone) {
				t.Fatalf("heap %d: %v, and Check answers %d", i, verify.Faults(h), why)
			}
			counts[why]++
		}
	}
	if counts[api.OK] < 500 || counts[api.ErrForm] < 2000 {
		t.Error("too few of a kind:", counts)
	}
}

// 29.5

// TestMended: a heap that was repaired is valid and has no faults, and a valid one is not changed.
func TestMended(t *testing.T) {
	counts := map[bool]int{}
	all := [][]api.Heap{sample.Heaps(), sample.BadHeaps(), sample.WovenHeaps(), damaged(295, 3000), broken(296, 1000)}
	for _, l := range all {
		for i, h := range l {
			g, n, why := verify.Mend(h)
			if why == api.ErrForm {
				continue
			}
			if no := heap.Check(g); why != api.OK || no != api.OK || len(verify.Faults(g)) != 0 {
				t.Fatalf("heap %d: error %d, and Check answers %d: %v", i, why, no, verify.Faults(g))
			}
			if again, more, why := verify.Mend(g); !same(again, g) || more != 0 || why != api.OK {
				t.Fatalf("heap %d, once more: %d, error %d", i, more, why)
			}
			valid := heap.Check(h) == api.OK
			if valid != (n == 0) || valid && !same(g, h) {
				t.Fatalf("heap %d: %d faults were repaired", i, n)
			}
			counts[valid]++
		}
	}
	if counts[true] < 300 || counts[false] < 1000 {
		t.Error("too few of a kind:", counts)
	}
}

// TestObjectsStay: the objects that have no faults are what they were, but for references to others.
func TestObjectsStay(t *testing.T) {
	for i, h := range damaged(297, 1000) {
		g, _, why := verify.Mend(h)
		if why != api.OK {
			t.Fatal(i, why)
		}
		for _, x := range things(h) {
			shape, no := heap.At(g, x.addr)
			if x.faulty || !x.current {
				if no == api.OK {
					t.Fatalf("heap %d: there is an object at %d", i, x.addr)
				}
				continue
			}
			if shape != (api.Shape{N: x.words - 1, Mask: x.mask}) || no != api.OK {
				t.Fatalf("heap %d: at %d there is %v, error %d", i, x.addr, shape, no)
			}
			for field := range shape.N {
				was := h.Arena.Words[x.addr+1+uint64(field)]
				if w, isRef, why := heap.Load(g, x.addr, field); w != was && (!isRef || w != 0) || why != api.OK {
					t.Fatalf("heap %d: field %d of %d has %d instead of %d, error %d", i, field, x.addr, w, was, why)
				}
			}
		}
	}
}
