package model_test

import (
	"math"
	"slices"

	"besom/api"
	"besom/sample"
)

// What the chapter's words say, written down once more, and without regard for speed.

// scene is what a collection starts from.
type scene struct {
	h     api.Heap
	roots []uint64
	t     api.Ephem
	l     []api.Special
}

// current are the addresses of all current objects.
func current(h api.Heap) []uint64 {
	var out []uint64
	for _, o := range sample.Objects(h) {
		out = append(out, o.Addr)
	}
	return out
}

// reachable goes by the three rules again and again, till none of them adds an object.
func reachable(s scene) []uint64 {
	in := map[uint64]bool{}
	add := func(addrs ...uint64) {
		for _, addr := range addrs {
			if addr != 0 {
				in[addr] = true
			}
		}
	}
	add(s.roots...)
	objects := sample.Objects(s.h)
	for before := -1; before < len(in); {
		before = len(in)
		for _, o := range objects {
			if in[o.Addr] {
				add(o.Refs()...)
			}
		}
		for _, e := range s.t.Slots {
			if e.State == api.EphUsed && in[e.Key] {
				add(e.Val)
			}
		}
	}
	var out []uint64
	for _, o := range objects {
		if in[o.Addr] {
			out = append(out, o.Addr)
		}
	}
	return out
}

// dead reports whether Reach answers ErrDead: objects has the addresses of the current objects.
func dead(s scene) bool {
	objects := current(s.h)
	for _, e := range s.t.Slots {
		if e.State == api.EphUsed && (!slices.Contains(objects, e.Key) || e.Val != 0 && !slices.Contains(objects, e.Val)) {
			return true
		}
	}
	return slices.ContainsFunc(s.roots, func(addr uint64) bool { return addr != 0 && !slices.Contains(objects, addr) })
}

// lost are the specials of a kind whose objects are not in the list.
func lost(l []api.Special, kind api.SpecialKind, objects []uint64) []api.Special {
	var out []api.Special
	for _, s := range l {
		if s.Kind == kind && !slices.Contains(objects, s.Addr) {
			out = append(out, s)
		}
	}
	return out
}

// fate is what Fate answers when there is nothing to refuse.
func fate(s scene) api.Fate {
	live := reachable(s)
	finals := lost(s.l, api.SpecialFinal, live)
	more := s
	more.roots = slices.Clone(s.roots)
	for _, f := range finals {
		more.roots = append(more.roots, f.Addr)
	}
	kept := reachable(more)
	return api.Fate{Live: live, Kept: kept, Finals: finals, Cleans: lost(s.l, api.SpecialClean, kept)}
}

// same reports whether two values are alike; a nil list is an empty one.
func same(a, b api.Fate) bool {
	return slices.Equal(a.Live, b.Live) && slices.Equal(a.Kept, b.Kept) && slices.Equal(a.Finals, b.Finals) && slices.Equal(a.Cleans, b.Cleans)
}

func copyFate(f api.Fate) api.Fate {
	return api.Fate{Live: slices.Clone(f.Live), Kept: slices.Clone(f.Kept), Finals: slices.Clone(f.Finals), Cleans: slices.Clone(f.Cleans)}
}

func copyScene(s scene) scene {
	return scene{sample.CopyHeap(s.h), slices.Clone(s.roots), sample.CopyEphem(s.t), slices.Clone(s.l)}
}

func sameScenes(a, b scene) bool {
	return sample.SameHeaps(a.h, b.h) && slices.Equal(a.roots, b.roots) && sample.SameEphems(a.t, b.t) && slices.Equal(a.l, b.l)
}

// chapter is the scene of the chapter's examples, from the root l0, with the specials of the first of those of Fate.
func chapter() scene {
	return scene{sample.SixObjects(), []uint64{16}, sample.SixEphems(), []api.Special{
		sample.Final(16, 1), sample.Cleanup(24, 2), sample.Final(24, 3), sample.Cleanup(28, 4),
	}}
}

// small are the heaps of the sample that a test may search again and again.
func small() []api.Heap {
	return slices.DeleteFunc(sample.Heaps(), func(h api.Heap) bool { return len(h.Spans) > 100 })
}

// scenes are scenes in which nothing is dead, in the small heaps of the sample and in others.
func scenes(n int) []scene {
	heaps := small()
	out := []scene{chapter()}
	p := sample.Picks(7)
	for i := range n {
		h := sample.Web(&p, 1+i%12)
		if i%3 == 0 {
			h = heaps[i/3%len(heaps)]
		}
		out = append(out, scene{h, someRoots(&p, h), someEphems(&p, h), someSpecials(&p, h)})
	}
	return out
}

// one chooses an address of a current object. It chooses 0 now and then, and always if there is none.
func one(p *sample.Picks, h api.Heap) uint64 {
	l := current(h)
	if len(l) == 0 || p.Below(9) == 0 {
		return 0
	}
	return l[p.Below(len(l))]
}

func someRoots(p *sample.Picks, h api.Heap) []uint64 {
	var out []uint64
	for range p.Below(4) {
		out = append(out, one(p, h))
	}
	return out
}

func someEphems(p *sample.Picks, h api.Heap) api.Ephem {
	var pairs []uint64
	for _, key := range current(h) {
		if p.Below(2) == 0 && len(pairs) < 2*24 {
			pairs = append(pairs, key, one(p, h))
		}
	}
	if p.Below(6) == 0 {
		return api.Ephem{}
	}
	t := sample.Pairs(64, pairs...)
	if len(pairs) > 0 && p.Below(2) == 0 {
		return sample.Without(t, pairs[0])
	}
	return t
}

func someSpecials(p *sample.Picks, h api.Heap) []api.Special {
	var out []api.Special
	for _, addr := range current(h) {
		for range p.Below(4) {
			out = append(out, sample.Cleanup(addr, p.Word()))
		}
		if len(out) > 0 && p.Below(2) == 0 {
			last := &out[len(out)-1]
			*last = sample.Final(last.Addr, last.Tag)
		}
	}
	return out[:min(len(out), 64)]
}

// wrongAddrs are addresses of no current object in any heap of fewer than a thousand pages.
func wrongAddrs() []uint64 {
	return []uint64{1, 2, 15, 17, 19, 16383, 16384, 1 << 32, 1<<32 + 16, 1 << 60, 1<<60 + 16, 1 << 63, math.MaxUint64 - 15, math.MaxUint64}
}
