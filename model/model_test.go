package model_test

import (
	"math"
	"slices"
	"testing"

	"besom/api"
	"besom/heap"
	"besom/model"
	"besom/sample"
)

// TestScenesAreValid: the scenes are of values that are valid, and have dead and living objects of all kinds.
func TestScenesAreValid(t *testing.T) {
	for i, h := range append(sample.Heaps(), sample.SixObjects()) {
		if why := heap.Check(h); why != api.OK {
			t.Errorf("heap %d: error %d", i, why)
		}
	}
	var live, more, finals, cleans int
	for i, s := range scenes(300) {
		if why := heap.Check(s.h); why != api.OK || dead(s) {
			t.Fatalf("scene %d: error %d", i, why)
		}
		f := fate(s)
		live, more = live+len(f.Live), more+len(f.Kept)-len(f.Live)
		finals, cleans = finals+len(f.Finals), cleans+len(f.Cleans)
	}
	if live < 300 || more < 300 || finals < 300 || cleans < 300 {
		t.Error(live, more, finals, cleans)
	}
}

// 11.1

func TestReach(t *testing.T) {
	for i, s := range scenes(400) {
		want := reachable(s)
		if got, why := model.Reach(s.h, s.roots, s.t); !slices.Equal(got, want) || why != api.OK {
			t.Fatalf("Reach in scene %d from %d: %d, error %d; want %d", i, s.roots, got, why, want)
		}
	}
}

// TestReachLarge: the greatest heaps, one of which is a ring of two thousand objects, are searched to their ends.
func TestReachLarge(t *testing.T) {
	t.Parallel()
	for i, h := range []api.Heap{sample.FullPages(), sample.FullSpans()} {
		all := current(h)
		if got, why := model.Reach(h, all[len(all)/2:][:1], api.Ephem{}); !slices.Equal(got, all) || why != api.OK {
			t.Errorf("Reach in heap %d: %d objects, error %d; want %d", i, len(got), why, len(all))
		}
	}
}

// TestRoots: 0 is no object, and it does not matter in which order the roots are, and how often.
func TestRoots(t *testing.T) {
	h, e := sample.SixObjects(), sample.SixEphems()
	for _, x := range []struct{ roots, want []uint64 }{
		{nil, nil},
		{[]uint64{0}, nil},
		{slices.Repeat([]uint64{0}, 1000), nil},
		{[]uint64{36}, []uint64{36}},
		{[]uint64{32}, []uint64{32, 36}},
		{[]uint64{28}, []uint64{28}},
		{[]uint64{24}, []uint64{24, 28}},
		{[]uint64{20}, []uint64{16, 20, 32, 36}},
		{[]uint64{16}, []uint64{16, 20, 32, 36}},
		{[]uint64{0, 16, 0}, []uint64{16, 20, 32, 36}},
		{[]uint64{36, 24}, []uint64{24, 28, 36}},
		{[]uint64{24, 36, 24, 24, 28, 0, 36}, []uint64{24, 28, 36}},
		{[]uint64{36, 32, 28, 24, 20, 16}, []uint64{16, 20, 24, 28, 32, 36}},
		{slices.Repeat([]uint64{24, 16}, 5000), []uint64{16, 20, 24, 28, 32, 36}},
	} {
		if got, why := model.Reach(h, x.roots, e); !slices.Equal(got, x.want) || why != api.OK {
			t.Errorf("Reach from %d: %d, error %d; want %d", x.roots[:min(len(x.roots), 10)], got, why, x.want)
		}
	}
}

// TestEphems: a value is reachable through its key, in whichever order the keys become reachable; and not through itself, or a key that is not reachable.
func TestEphems(t *testing.T) {
	row := numberless(48)
	all := current(row)
	var up, down []uint64
	for i := range 47 {
		up = append(up, all[i], all[i+1])
		down = append(down, all[47-i], all[46-i])
	}
	a, b, c, d := all[0], all[1], all[2], all[3]
	for i, x := range []struct {
		pairs, roots, want []uint64
	}{
		{up, all[:1], all},
		{down, all[47:], all},
		{up, all[20:21], all[20:]},
		{down, all[20:21], all[:21]},
		{[]uint64{a, 0}, []uint64{a}, []uint64{a}},
		{[]uint64{a, a}, []uint64{a}, []uint64{a}},
		{[]uint64{a, a}, nil, nil},
		{[]uint64{a, b, b, a}, nil, nil},
		{[]uint64{a, b, b, a}, []uint64{c}, []uint64{c}},
		{[]uint64{a, b, b, a}, []uint64{b}, []uint64{a, b}},
		{[]uint64{a, c, b, c}, []uint64{b}, []uint64{b, c}},
		{[]uint64{a, c, b, d}, []uint64{c}, []uint64{c}},
		{[]uint64{d, c, c, b, b, 0}, []uint64{d}, []uint64{b, c, d}},
	} {
		if got, why := model.Reach(row, x.roots, sample.Pairs(64, x.pairs...)); !slices.Equal(got, x.want) || why != api.OK {
			t.Errorf("Reach with table %d: %d, error %d; want %d", i, got, why, x.want)
		}
	}
}

// numberless is a heap of n objects that refer to nothing.
func numberless(n int) api.Heap {
	var l []api.Span
	var objects []sample.Object
	for i := range n {
		if i%8 == 0 {
			l = append(l, sample.Span(1+i/8, 1, 2, 0xff, 0))
		}
		objects = append(objects, sample.Object{Addr: uint64(16 + 2*i), N: 1, Mask: 1})
	}
	return sample.Heap(n/8+2, l, objects...)
}

// TestNumbers: a field without a reference leads nowhere, whatever it contains.
func TestNumbers(t *testing.T) {
	h := sample.Heap(3, []api.Span{sample.Span(1, 1, 4, 15, 0)},
		sample.Object{Addr: 16, N: 3, Mask: 5, Fields: []uint64{20, 24, 0}}, sample.Object{Addr: 20, N: 3, Fields: []uint64{24, 28, 28}},
		sample.Object{Addr: 24, N: 3, Mask: 2, Fields: []uint64{16, 28, math.MaxUint64}}, sample.Object{Addr: 28, N: 2, Mask: 2, Fields: []uint64{24, 0}})
	for root, want := range map[uint64][]uint64{16: {16, 20}, 20: {20}, 24: {24, 28}, 28: {28}} {
		if got, why := model.Reach(h, []uint64{root}, api.Ephem{}); !slices.Equal(got, want) || why != api.OK {
			t.Errorf("Reach from %d: %d, error %d; want %d", root, got, why, want)
		}
	}
}

// TestMarksDoNotMatter: where all spans are Swept, what is reachable does not hang on what is marked.
func TestMarksDoNotMatter(t *testing.T) {
	for _, root := range []uint64{16, 24, 32} {
		s := scene{sample.SixObjects(), []uint64{root}, sample.SixEphems(), nil}
		want := reachable(s)
		for _, addr := range current(s.h) {
			s.h, _, _ = heap.Mark(s.h, addr)
			if got, why := model.Reach(s.h, s.roots, s.t); !slices.Equal(got, want) || why != api.OK {
				t.Errorf("Reach from %d: %d, error %d; want %d", root, got, why, want)
			}
		}
	}
}

// deadScenes are scenes in each of which one address is that of no current object: a root, a key or a value, be that reachable or not.
func deadScenes() []scene {
	var out []scene
	for i, s := range scenes(60) {
		for k, addr := range append(wrongAddrs(), deadOf(s.h)...) {
			root, key, val := copyScene(s), copyScene(s), copyScene(s)
			root.roots = slices.Insert(root.roots, i%(len(s.roots)+1), addr)
			out = append(out, root)
			if slices.ContainsFunc(s.t.Slots, func(e api.EphSlot) bool { return e.Key == addr }) || count(s.t) > 24 {
				continue
			}
			key.t = with(s.t, addr, one(new(sample.Picks), s.h))
			out = append(out, key)
			if objects := current(s.h); len(objects) > 0 {
				val.t = with(s.t, objects[k%len(objects)], addr)
				out = append(out, val)
			}
		}
	}
	return out
}

// deadOf are the addresses of slots that are not allocated, and of objects that are not current.
func deadOf(h api.Heap) []uint64 {
	var out []uint64
	for _, s := range h.Spans {
		for slot := range s.Alloc.N {
			addr := uint64(s.First*16 + slot*s.Size)
			if !slices.Contains(current(h), addr) {
				out = append(out, addr)
			}
		}
	}
	return out[:min(len(out), 6)]
}

func count(t api.Ephem) int {
	n := 0
	for _, e := range t.Slots {
		if e.State == api.EphUsed {
			n++
		}
	}
	return n
}

// with is a table that has the pairs of t, and one more, or another value.
func with(t api.Ephem, key, val uint64) api.Ephem {
	pairs := []uint64{key, val}
	for _, e := range t.Slots {
		if e.State == api.EphUsed && e.Key != key {
			pairs = append(pairs, e.Key, e.Val)
		}
	}
	return sample.Pairs(64, pairs...)
}

func TestReachDead(t *testing.T) {
	l := deadScenes()
	if len(l) < 1000 {
		t.Errorf("%d scenes alone", len(l))
	}
	for i, s := range l {
		if !dead(s) {
			t.Fatalf("scene %d is not dead", i)
		}
		if got, why := model.Reach(s.h, s.roots, s.t); len(got) != 0 || why != api.ErrDead {
			t.Fatalf("Reach in scene %d from %d: %d, error %d", i, s.roots, got, why)
		}
	}
}

// TestInvalidComesFirst: what is not valid comes before what is dead, in Reach and in Fate.
func TestInvalidComesFirst(t *testing.T) {
	refused := func(name string, i int, s scene) {
		t.Helper()
		if got, why := model.Reach(s.h, s.roots, s.t); len(got) != 0 || why != api.ErrForm {
			t.Errorf("Reach of %s %d: %d, error %d", name, i, got, why)
		}
		if got, why := model.Fate(s.h, s.roots, s.t, s.l); !same(got, api.Fate{}) || why != api.ErrForm {
			t.Errorf("Fate of %s %d: %v, error %d", name, i, got, why)
		}
	}
	for _, roots := range [][]uint64{nil, {0}, {16}, {17}, {math.MaxUint64}} {
		for i, h := range sample.BadHeaps() {
			refused("invalid heap", i, scene{h: h, roots: roots})
			refused("invalid heap, dead key,", i, scene{h, roots, sample.Ephem(8, 17), chapter().l})
		}
		for i, e := range sample.BadEphems() {
			refused("invalid table", i, scene{sample.SixObjects(), roots, e, nil})
			refused("invalid table, dead special,", i, scene{sample.SixObjects(), roots, e, []api.Special{sample.Final(17, 1)}})
		}
	}
}

// 11.2

func TestFate(t *testing.T) {
	for i, s := range scenes(400) {
		want := fate(s)
		if got, why := model.Fate(s.h, s.roots, s.t, s.l); !same(got, want) || why != api.OK {
			t.Fatalf("Fate in scene %d: %v, error %d; want %v", i, got, why, want)
		}
	}
}

// TestFateOfSix: what finalizers need is kept, and its cleanups wait; a finalizer is run whether or not another one needs its object.
func TestFateOfSix(t *testing.T) {
	final, cleanup := sample.Final, sample.Cleanup
	all := []uint64{16, 20, 24, 28, 32, 36}
	for i, x := range []struct {
		roots []uint64
		l     []api.Special
		want  api.Fate
	}{
		{all, []api.Special{final(16, 1), cleanup(20, 2), final(36, 3)}, api.Fate{Live: all, Kept: all}},
		{nil, []api.Special{cleanup(16, 1), cleanup(16, 1), cleanup(36, 9)},
			api.Fate{Cleans: []api.Special{cleanup(16, 1), cleanup(16, 1), cleanup(36, 9)}}},
		{nil, []api.Special{cleanup(16, 1), final(16, 2), cleanup(36, 3)},
			api.Fate{Kept: []uint64{16, 20, 32, 36}, Finals: []api.Special{final(16, 2)}}},
		{nil, []api.Special{final(24, 1), cleanup(24, 2), final(28, 3), cleanup(28, 4), cleanup(32, 5)},
			api.Fate{Kept: []uint64{24, 28}, Finals: []api.Special{final(24, 1), final(28, 3)}, Cleans: []api.Special{cleanup(32, 5)}}},
		{[]uint64{28}, []api.Special{final(24, 1), final(28, 2), cleanup(32, 3), cleanup(36, 4)},
			api.Fate{Live: []uint64{28}, Kept: []uint64{24, 28}, Finals: []api.Special{final(24, 1)}, Cleans: []api.Special{cleanup(32, 3), cleanup(36, 4)}}},
		{[]uint64{36}, []api.Special{cleanup(20, 1), final(32, 2), cleanup(36, 4)},
			api.Fate{Live: []uint64{36}, Kept: []uint64{32, 36}, Finals: []api.Special{final(32, 2)}, Cleans: []api.Special{cleanup(20, 1)}}},
		// The key that a finalizer needs keeps its value, and so does that.
		{nil, []api.Special{cleanup(16, 1), final(20, 2), cleanup(24, 3), cleanup(32, 4), cleanup(36, 5)},
			api.Fate{Kept: []uint64{16, 20, 32, 36}, Finals: []api.Special{final(20, 2)}, Cleans: []api.Special{cleanup(24, 3)}}},
	} {
		if got, why := model.Fate(sample.SixObjects(), x.roots, sample.SixEphems(), x.l); !same(got, x.want) || why != api.OK {
			t.Errorf("Fate %d: %v, error %d; want %v", i, got, why, x.want)
		}
	}
}

// TestFateManySpecials: as many specials as there may be.
func TestFateManySpecials(t *testing.T) {
	h := numberless(64)
	var finals, cleans []api.Special
	for i, addr := range current(h) {
		finals = append(finals, sample.Final(addr, uint64(i)))
		cleans = append(cleans, sample.Cleanup(addr, uint64(i)))
	}
	roots := current(h)[5:20]
	left := slices.Concat(finals[:5], finals[20:])
	if got, why := model.Fate(h, roots, api.Ephem{}, finals); !same(got, api.Fate{Live: roots, Kept: current(h), Finals: left}) || why != api.OK {
		t.Error("64 finalizers:", got, why)
	}
	left = slices.Concat(cleans[:5], cleans[20:])
	if got, why := model.Fate(h, roots, api.Ephem{}, cleans); !same(got, api.Fate{Live: roots, Kept: roots, Cleans: left}) || why != api.OK {
		t.Error("64 cleanups:", got, why)
	}
}

// TestFateLarge: a ring of two thousand objects is kept by one finalizer.
func TestFateLarge(t *testing.T) {
	t.Parallel()
	h := sample.FullSpans()
	all := current(h)
	l := []api.Special{sample.Final(all[7], 1), sample.Cleanup(all[9], 2)}
	if got, why := model.Fate(h, nil, api.Ephem{}, l); !same(got, api.Fate{Kept: all, Finals: l[:1]}) || why != api.OK {
		t.Error(len(got.Live), len(got.Kept), got.Finals, got.Cleans, why)
	}
}

// TestFateErrors: specials that are not valid come before anything dead; a special of no current object is dead, whatever its kind.
func TestFateErrors(t *testing.T) {
	refused := func(name string, i int, s scene, want api.Errno) {
		t.Helper()
		if got, why := model.Fate(s.h, s.roots, s.t, s.l); !same(got, api.Fate{}) || why != want {
			t.Errorf("Fate of %s %d: %v, error %d; want %d", name, i, got, why, want)
		}
	}
	six, e := sample.SixObjects(), sample.SixEphems()
	for i, l := range sample.BadSpecials() {
		refused("invalid specials", i, scene{six, []uint64{16}, e, l}, api.ErrForm)
		refused("invalid specials, dead root,", i, scene{six, []uint64{17}, e, l}, api.ErrForm)
		refused("invalid specials, dead key,", i, scene{six, nil, sample.Ephem(8, 17), l}, api.ErrForm)
	}
	for i, s := range deadScenes()[:400] {
		refused("dead scene", i, s, api.ErrDead)
	}
	for i, s := range scenes(40) {
		s.l = s.l[:min(len(s.l), 63)]
		for _, addr := range append(wrongAddrs(), deadOf(s.h)...) {
			for _, kind := range []api.SpecialKind{api.SpecialFinal, api.SpecialClean} {
				bad := s
				at, _ := slices.BinarySearchFunc(s.l, addr, func(x api.Special, addr uint64) int {
					if x.Addr < addr {
						return -1
					}
					return 1
				})
				bad.l = slices.Insert(slices.Clone(s.l), at, api.Special{Addr: addr, Kind: kind, Tag: 3})
				refused("dead special", i, bad, api.ErrDead)
			}
		}
	}
}

// TestAlike: values are alike if all four fields are, an order and each number in them included.
func TestAlike(t *testing.T) {
	s := chapter()
	f := fate(s)
	f.Cleans = []api.Special{sample.Cleanup(20, 5), sample.Cleanup(28, 6)}
	fates := []api.Fate{
		{}, {Live: []uint64{16}}, {Kept: []uint64{16}}, {Live: []uint64{16}, Kept: []uint64{16}}, {Live: []uint64{0}},
		{Live: []uint64{16, 20}}, {Live: []uint64{20, 16}}, {Live: []uint64{16, 16}}, {Live: []uint64{math.MaxUint64}}, {Kept: []uint64{math.MaxUint64, 1}},
		{Finals: []api.Special{{}}}, {Cleans: []api.Special{{}}}, {Finals: []api.Special{sample.Final(16, 1)}}, {Finals: []api.Special{sample.Cleanup(16, 1)}},
		{Finals: []api.Special{sample.Final(16, 2)}}, {Finals: []api.Special{sample.Final(17, 1)}}, {Cleans: []api.Special{sample.Final(16, 1)}},
		{Finals: []api.Special{{Addr: 16, Kind: 255, Tag: 1}}}, {Finals: []api.Special{sample.Final(16, 1), sample.Final(20, 1)}},
		{Finals: []api.Special{sample.Final(20, 1), sample.Final(16, 1)}},
		{Cleans: []api.Special{sample.Cleanup(16, 1), sample.Cleanup(16, 1)}}, {Cleans: []api.Special{sample.Cleanup(16, 1)}},
		f,
	}
	for _, change := range changes() {
		g := copyFate(f)
		change(&g)
		fates = append(fates, g)
	}
	for i, a := range fates {
		for k, b := range fates {
			if got := model.Alike(a, copyFate(b)); got != (i == k) {
				t.Errorf("Alike of %v and %v: %v", a, b, got)
			}
		}
	}
	empty := api.Fate{Live: []uint64{}, Kept: make([]uint64, 0, 4), Finals: []api.Special{}, Cleans: make([]api.Special, 0, 4)}
	if !model.Alike(empty, api.Fate{}) || !model.Alike(api.Fate{}, empty) {
		t.Error("Alike of empty lists and nil ones")
	}
}

// changes are changes of one field each.
func changes() []func(f *api.Fate) {
	return []func(f *api.Fate){
		func(f *api.Fate) { f.Live = f.Live[1:] },
		func(f *api.Fate) { f.Live = f.Live[:len(f.Live)-1] },
		func(f *api.Fate) { f.Live[2]++ },
		func(f *api.Fate) { f.Live[0], f.Live[1] = f.Live[1], f.Live[0] },
		func(f *api.Fate) { f.Kept = f.Kept[1:] },
		func(f *api.Fate) { f.Kept[5]++ },
		func(f *api.Fate) { f.Kept = append(f.Kept, 99) },
		func(f *api.Fate) { f.Finals = nil },
		func(f *api.Fate) { f.Finals[0].Tag++ },
		func(f *api.Fate) { f.Finals[0].Addr++ },
		func(f *api.Fate) { f.Finals[0].Kind++ },
		func(f *api.Fate) { f.Cleans = f.Cleans[1:] },
		func(f *api.Fate) { f.Cleans[1].Tag++ },
		func(f *api.Fate) { f.Cleans[0], f.Cleans[1] = f.Cleans[1], f.Cleans[0] },
		func(f *api.Fate) { f.Live, f.Kept = f.Kept, f.Live },
		func(f *api.Fate) { f.Finals, f.Cleans = f.Cleans, f.Finals },
	}
}

// Examples

// TestChapterExamples are those of 11.1 and 11.2.
func TestChapterExamples(t *testing.T) {
	h, e := sample.SixObjects(), sample.SixEphems()
	l := current(h)
	if got, why := model.Reach(h, []uint64{l[0], 0}, e); !slices.Equal(got, []uint64{l[0], l[1], l[4], l[5]}) || why != api.OK {
		t.Error("Reach:", got, why)
	}
	if got, why := model.Reach(h, []uint64{17}, e); len(got) != 0 || why != api.ErrDead {
		t.Error("Reach from 17:", got, why)
	}
	if got, why := model.Reach(h, []uint64{l[0]}, with(e, 17, 0)); len(got) != 0 || why != api.ErrDead {
		t.Error("Reach with the key 17:", got, why)
	}
	both := []api.Special{sample.Final(l[0], 1), sample.Cleanup(l[2], 2), sample.Final(l[2], 3), sample.Cleanup(l[3], 4)}
	got, why := model.Fate(h, []uint64{l[0]}, e, both)
	if len(got.Live) != 4 || !slices.Equal(got.Finals, both[2:3]) || len(got.Kept) != 6 || len(got.Cleans) != 0 || why != api.OK {
		t.Error("Fate:", got, why)
	}
	cleans := []api.Special{both[1], both[3]}
	got, why = model.Fate(h, []uint64{l[0]}, e, cleans)
	if len(got.Live) != 4 || len(got.Finals) != 0 || len(got.Kept) != 4 || !slices.Equal(got.Cleans, cleans) || why != api.OK {
		t.Error("Fate of two cleanups:", got, why)
	}
}

// TestThreeObjects is the example at the end of the chapter.
func TestThreeObjects(t *testing.T) {
	h := sample.ThreeObjects()
	h, _ = heap.Store(h, 16, 0, 20, true)
	l := []api.Special{sample.Final(32, 1)}
	got, why := model.Fate(h, []uint64{16}, api.Ephem{}, l)
	if !same(got, api.Fate{Live: []uint64{16, 20}, Kept: []uint64{16, 20, 32}, Finals: l}) || why != api.OK {
		t.Error(got, why)
	}
}
