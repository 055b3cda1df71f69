package queue_test

import (
	"math"
	"slices"
	"testing"

	"besom/api"
	"besom/queue"
	"besom/reach"
	"besom/sample"
	"besom/special"
)

// TestSamplesAreValid: what the tests try is valid, in all phases, and with items of both kinds.
func TestSamplesAreValid(t *testing.T) {
	phases, kinds := map[api.Phase]int{}, map[api.SpecialKind]int{}
	empty, full := 0, 0
	for i, g := range append(gcs(400), arguments()...) {
		if why := reach.Check(g); why != api.OK {
			t.Errorf("heap %d: error %d", i, why)
		}
		phases[g.Phase]++
		for _, item := range g.Queue {
			kinds[item.Kind]++
		}
		switch len(g.Queue) {
		case 0:
			empty++
		case 256:
			full++
		}
	}
	if len(phases) != 4 || len(kinds) != 2 || kinds[api.SpecialFinal] < 1000 || kinds[api.SpecialClean] < 1000 || empty < 50 || full < 10 {
		t.Error(phases, kinds, empty, full)
	}
}

// TestInvalidComesFirst: what is not valid comes before all other errors, and there is no result.
func TestInvalidComesFirst(t *testing.T) {
	for i, g := range sample.BadGcs() {
		if item, why := queue.Next(g); item != (api.Item{}) || why != api.ErrForm {
			t.Errorf("Next of invalid heap %d: %v, error %d", i, item, why)
		}
		if got, ran, why := queue.Run(g); !same(got, api.Gc{}) || !sample.SameRan(ran, api.Ran{}) || why != api.ErrForm {
			t.Errorf("Run of invalid heap %d: %v, error %d", i, ran, why)
		}
		if got, all, why := queue.Drain(g); !same(got, api.Gc{}) || len(all) != 0 || why != api.ErrForm {
			t.Errorf("Drain of invalid heap %d: %v, error %d", i, all, why)
		}
		for _, kinds := range kindLists() {
			if n, why := queue.Many(g, kinds...); n != 0 || why != api.ErrForm {
				t.Errorf("Many of invalid heap %d: %d, error %d", i, n, why)
			}
		}
	}
}

// 17.1

func TestNext(t *testing.T) {
	counts := map[api.Errno]int{}
	for i, g := range append(gcs(400), sample.Gcs()...) {
		want, no := next(g)
		if got, why := queue.Next(g); got != want || why != no {
			t.Errorf("Next of heap %d: %v, error %d; want %v, %d", i, got, why, want, no)
		}
		counts[no]++
	}
	if counts[api.OK] < 200 || counts[api.ErrNone] < 50 {
		t.Error(counts)
	}
}

// TestNextForm: a cleanup whose Addr is not 0, and a finalizer whose Addr is 0, are none: where one waits, the heap is not valid.
func TestNextForm(t *testing.T) {
	for _, item := range []api.Item{{Kind: api.SpecialClean, Addr: 16}, sample.FinalItem(0, 1), {}, {Kind: api.SpecialCount}} {
		g := sample.ThreeItems()
		g.Queue[0] = item
		if got, why := queue.Next(g); got != (api.Item{}) || why != api.ErrForm {
			t.Error(item, got, why)
		}
	}
}

func TestRun(t *testing.T) {
	counts, sizes := map[api.Errno]int{}, map[int]int{}
	for i, g := range append(gcs(400), sample.Gcs()...) {
		for range 8 {
			want, wanted, no := run(g)
			got, ran, why := queue.Run(g)
			if !same(got, want) || !sample.SameRan(ran, wanted) || why != no {
				t.Fatalf("Run of heap %d: %v, error %d; want %v, %d", i, ran, why, wanted, no)
			}
			counts[no]++
			if ran.Item.Kind == api.SpecialFinal {
				sizes[len(ran.Fields)/8]++
			}
			if no != api.OK {
				break
			}
			g = got
		}
	}
	if counts[api.OK] < 500 || counts[api.ErrNone] < 200 || len(sizes) != 7 {
		t.Error(counts, sizes)
	}
}

// TestRunFields: of a finalizer, all fields are returned, numbers and references, as they are; of an object without fields, and of a cleanup, none.
func TestRunFields(t *testing.T) {
	g := busy()
	large := slices.Repeat([]uint64{16, 0, 64}, 16)
	for i, want := range [][]uint64{large, nil, {32, 20, 64}, nil, nil, {32, 20, 64}, nil, {32}} {
		item := g.Queue[0]
		got, ran, why := queue.Run(g)
		if !sample.SameRan(ran, api.Ran{Item: item, Fields: want}) || len(got.Queue) != 7-i || why != api.OK {
			t.Errorf("Run %d: %v, error %d; want %d", i, ran, why, want)
		}
		g = got
	}
	last := busy()
	last.Queue = nil
	if got, ran, why := queue.Run(g); !same(g, last) || !same(got, last) || !sample.SameRan(ran, api.Ran{}) || why != api.ErrNone {
		t.Error(got.Queue, ran, why)
	}
}

// TestRunStored: the fields are those that were stored last.
func TestRunStored(t *testing.T) {
	g := sample.ThreeItems()
	g.Queue = g.Queue[1:]
	for _, w := range []uint64{0, 5, 1 << 63, math.MaxUint64} {
		g.Marker.Heap.Arena.Words[18] = w
		if _, ran, why := queue.Run(g); !slices.Equal(ran.Fields, []uint64{16, w}) || why != api.OK {
			t.Error(w, ran, why)
		}
	}
}

func TestDrain(t *testing.T) {
	most := 0
	for i, g := range append(gcs(400), sample.Gcs()...) {
		want, wanted := drain(g)
		got, all, why := queue.Drain(g)
		if !same(got, want) || !like(all, wanted) || why != api.OK {
			t.Errorf("Drain of heap %d: %v, error %d; want %v", i, all, why, wanted)
		}
		most = max(most, len(all))
	}
	if most != 256 {
		t.Error(most)
	}
}

// TestDrainFull: a full queue of finalizers of the greatest objects in the greatest heap is run to its end.
func TestDrainFull(t *testing.T) {
	g := sample.Gc(api.PhaseIdle, sample.Off(sample.FullPages(), 4))
	for i, addr := range sample.Addrs(g.Marker.Heap) {
		g.Queue = append(g.Queue, sample.FinalItem(addr, uint64(i)))
	}
	want, wanted := drain(g)
	if got, all, why := queue.Drain(g); !same(got, want) || !like(all, wanted) || len(all) != 256 || why != api.OK {
		t.Error(len(all), why)
	}
}

// kindLists are lists of kinds, some of which no item has.
func kindLists() [][]api.SpecialKind {
	return [][]api.SpecialKind{
		nil, {api.SpecialFinal}, {api.SpecialClean}, {api.SpecialFinal, api.SpecialClean}, {api.SpecialClean, api.SpecialClean, api.SpecialClean},
		{api.SpecialNone}, {api.SpecialCount}, {255, 128, 129, 130}, {255, api.SpecialClean, 0, api.SpecialFinal, api.SpecialClean, 3},
	}
}

func TestMany(t *testing.T) {
	sum := 0
	for i, g := range append(gcs(400), sample.Gcs()...) {
		for _, kinds := range kindLists() {
			want := many(g, kinds)
			if n, why := queue.Many(g, kinds...); n != want || why != api.OK {
				t.Errorf("Many of heap %d, %v: %d, error %d; want %d", i, kinds, n, why, want)
			}
			sum += want
		}
	}
	if sum < 10000 {
		t.Error(sum)
	}
	for i, want := range []int{0, 5, 3, 8, 3, 0, 0, 0, 8} {
		if n, why := queue.Many(busy(), kindLists()[i]...); n != want || why != api.OK {
			t.Error(kindLists()[i], n, why)
		}
	}
}

// TestChapter: the chapter's own examples, one after the other.
func TestChapter(t *testing.T) {
	g := sample.ThreeItems()
	bad := sample.CopyGc(g)
	bad.Queue[0].Addr = 16
	if item, why := queue.Next(bad); item != (api.Item{}) || why != api.ErrForm {
		t.Error("Next of a cleanup with an address:", item, why)
	}
	if n, why := queue.Many(g, api.SpecialClean); n != 2 || why != api.OK {
		t.Error("Many:", n, why)
	}
	if item, why := queue.Next(g); item != sample.CleanItem(1) || why != api.OK {
		t.Error("Next:", item, why)
	}
	first, ran, why := queue.Run(g)
	if !sample.SameRan(ran, api.Ran{Item: sample.CleanItem(1)}) || why != api.OK {
		t.Error("the first Run:", ran, why)
	}
	if item, why := queue.Next(first); item != sample.FinalItem(16, 2) || why != api.OK {
		t.Error("Next:", item, why)
	}
	_, ran, why = queue.Run(first)
	if !sample.SameRan(ran, api.Ran{Item: sample.FinalItem(16, 2), Fields: []uint64{16, 5}}) || why != api.OK {
		t.Error("the second Run:", ran, why)
	}
	got, all, why := queue.Drain(g)
	if len(all) != 3 || len(got.Queue) != 0 || why != api.OK {
		t.Error("Drain:", all, why)
	}
	if again, ran, why := queue.Run(got); !same(again, got) || !sample.SameRan(ran, api.Ran{}) || why != api.ErrNone {
		t.Error("Run after Drain:", ran, why)
	}
	if item, why := queue.Next(got); item != (api.Item{}) || why != api.ErrNone {
		t.Error("Next after Drain:", item, why)
	}
	if again, all, why := queue.Drain(got); !same(again, got) || len(all) != 0 || why != api.OK {
		t.Error("Drain after Drain:", all, why)
	}
}

// TestAfterCollection: the example of the whole chapter, as a collection makes the items: a finalizer of an object with the fields 1 and 2, and a cleanup.
func TestAfterCollection(t *testing.T) {
	h := sample.Heap(3, []api.Span{sample.Span(1, 1, 4, 3, 0)}, sample.Object{Addr: 16, N: 2, Fields: []uint64{1, 2}}, sample.Object{Addr: 20, N: 2})
	g := sample.Gc(api.PhaseIdle, sample.Off(h, 1))
	specials, why := special.Add(nil, sample.Final(16, 7), sample.Cleanup(20, 8))
	g.Specials = specials
	if why != api.OK {
		t.Fatal(why)
	}
	g, _ = reach.Start(g)
	for g.Phase != api.PhaseSweep {
		if g.Marker.On {
			g.Marker = sample.Settled(g.Marker)
		}
		if g, _, why = reach.Finish(g); why != api.OK {
			t.Fatal(why)
		}
	}
	want := []api.Ran{{Item: sample.FinalItem(16, 7), Fields: []uint64{1, 2}}, {Item: sample.CleanItem(8)}}
	if _, all, why := queue.Drain(g); !like(all, want) || why != api.OK {
		t.Error(all, why)
	}
}
