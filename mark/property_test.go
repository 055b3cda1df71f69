package mark_test

import (
	"slices"
	"testing"

	"besom/api"
	"besom/barrier"
	"besom/mark"
	"besom/model"
	"besom/sample"
)

// begun is a marker after Start and shading of some roots, by workers as they come.
func begun(t *testing.T, p *sample.Picks, h api.Heap, workers int, roots []uint64) api.Marker {
	t.Helper()
	m, why := barrier.Make(h, workers)
	m, no := barrier.Start(m)
	if why != api.OK || no != api.OK {
		t.Fatal(why, no)
	}
	for _, addr := range roots {
		if m, _, why = barrier.Shade(m, p.Below(workers), addr); why != api.OK {
			t.Fatal(why)
		}
	}
	return m
}

// 14.4

// TestClosure: after Start, shading of some roots, and Run, exactly what is reachable from the roots is marked, whichever workers executed the steps.
func TestClosure(t *testing.T) {
	p := sample.Picks(43)
	var many int
	for i, h := range sample.SweptHeaps(150) {
		roots := sample.SomeRoots(&p, h)
		want, why := model.Reach(h, roots, api.Ephem{})
		if why != api.OK || !slices.Equal(want, sample.Reachable(h, roots...)) {
			t.Fatal(i, want, why)
		}
		many += len(want)
		m := begun(t, &p, h, 1+i%4, roots)
		for _, l := range sample.Crews(&p, len(m.Hands)) {
			got, _, why := mark.Run(m, l...)
			if why == api.ErrTask {
				continue
			}
			marks, no := mark.Marks(got)
			if why != api.OK || no != api.OK || !slices.Equal(marks, want) {
				t.Fatalf("heap %d from %d for %d: %d, error %d, %d; want %d", i, roots, l, marks, why, no, want)
			}
			if done, why := mark.Done(got); !done || why != api.OK {
				t.Fatalf("heap %d from %d for %d: not Done, error %d", i, roots, l, why)
			}
		}
	}
	if many < 500 {
		t.Error(many)
	}
}

// TestClosureByScan: the same holds when single steps are executed in any order.
func TestClosureByScan(t *testing.T) {
	p := sample.Picks(45)
	for i, h := range sample.SweptHeaps(60) {
		roots := sample.SomeRoots(&p, h)
		m := begun(t, &p, h, 1+i%4, roots)
		for done := false; !done; done, _ = mark.Done(m) {
			m, _ = mark.Scan(m, p.Below(len(m.Hands)))
		}
		if got, why := mark.Marks(m); !slices.Equal(got, sample.Reachable(h, roots...)) || why != api.OK {
			t.Fatalf("heap %d from %d: %d, error %d", i, roots, got, why)
		}
	}
}

// TestMeanwhile: whatever is stored between the steps, in the end all is marked that can be reached then, and what is new.
func TestMeanwhile(t *testing.T) {
	p := sample.Picks(47)
	for i, h := range sample.SweptHeaps(60) {
		m := begun(t, &p, h, 1+i%4, sample.SomeRoots(&p, h))
		for done := false; !done; done, _ = mark.Done(m) {
			m, _ = mark.Scan(m, p.Below(len(m.Hands)))
			l := sample.Reachable(m.Heap, sample.Marked(m.Heap)...)
			if len(l) == 0 || p.Below(3) > 0 {
				continue
			}
			field, why := 0, api.OK
			addr, w := l[p.Below(len(l))], l[p.Below(len(l))]
			m, why = barrier.Write(m, p.Below(len(m.Hands)), addr, field, w, true)
			if why != api.OK && why != api.ErrField && why != api.ErrType {
				t.Fatal(why)
			}
		}
		marks := sample.Marked(m.Heap)
		if closed := sample.Reachable(m.Heap, marks...); !slices.Equal(closed, marks) {
			t.Fatalf("heap %d: %d is marked, %d can be reached", i, marks, closed)
		}
		if out, why := barrier.Stop(m); out.On || why != api.OK {
			t.Fatalf("heap %d: Stop: error %d", i, why)
		}
	}
}

// 14.5

// TestEnds: each object that is marked takes two steps, and one more for each field that holds a reference, whichever workers execute them. In these heaps, whose objects do not fill them with references alone, that is no more than the arena has words.
func TestEnds(t *testing.T) {
	p := sample.Picks(49)
	for i, h := range sample.SweptHeaps(150) {
		roots := sample.SomeRoots(&p, h)
		m := begun(t, &p, h, 1+i%4, roots)
		want := 0
		for _, o := range sample.Objects(h) {
			if !slices.Contains(sample.Reachable(h, roots...), o.Addr) {
				continue
			}
			want += 2
			for field := range o.N {
				want += int(o.Mask >> field & 1)
			}
		}
		for _, l := range [][]int{nil, {0}, {len(m.Hands) - 1, 0}} {
			if _, n, why := mark.Run(m, l...); n != want || n > len(h.Arena.Words) || why != api.OK {
				t.Errorf("heap %d from %d for %d: %d steps, error %d; want %d", i, roots, l, n, why, want)
			}
		}
	}
}
