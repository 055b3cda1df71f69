package world_test

import (
	"slices"

	"besom/api"
	"besom/mut"
	"besom/sample"
	"besom/sched"
)

// What the chapter's words say, written down once more, and without regard for speed.

var same = sample.SameWorlds

// done is what Do answers.
func done(w api.World, p api.Pick) (api.World, api.Heard, api.Errno) {
	out, heard, why := sample.CopyWorld(w), api.Heard{}, api.OK
	if p.Mutator {
		out.Runtime, heard.Reg, why = mut.Do(w.Runtime, p.Who, p.Op)
	} else {
		out.Runtime, heard.Ran, why = sched.Do(w.Runtime, p.Task)
	}
	if why != api.OK {
		return w, api.Heard{}, why
	}
	if !p.Mutator && p.Task.Kind == api.TaskRun {
		out.Ran = append(out.Ran, sample.CopyRan(heard.Ran))
		if len(out.Ran) > 256 {
			out.Ran = out.Ran[1:]
		}
	}
	return out, heard, api.OK
}

// fair is what Fair answers, if there may be so many rounds.
func fair(w api.World, rounds int) (api.World, int) {
	steps := 0
	for range rounds {
		for _, task := range sample.Round(w.Runtime) {
			next, _, why := done(w, api.Pick{Task: task})
			if why == api.OK {
				w, steps = next, steps+1
			}
		}
	}
	return w, steps
}

// live is what Live answers.
func live(w api.World) []uint64 {
	g := w.Runtime.Gc
	in := map[uint64]bool{}
	for _, m := range w.Runtime.Mutators {
		for _, addr := range sample.Refs(m) {
			in[addr] = true
		}
	}
	for _, item := range g.Queue {
		if item.Kind == api.SpecialFinal {
			in[item.Addr] = true
		}
	}
	objects := sample.Objects(g.Marker.Heap)
	for before := -1; before < len(in); {
		before = len(in)
		for _, o := range objects {
			if in[o.Addr] {
				for _, addr := range o.Refs() {
					in[addr] = true
				}
			}
		}
		for _, s := range g.Table.Slots {
			if s.State == api.EphUsed && s.Val != 0 && in[s.Key] {
				in[s.Val] = true
			}
		}
	}
	return slices.DeleteFunc(sample.Addrs(g.Marker.Heap), func(addr uint64) bool { return !in[addr] })
}

// worlds are valid worlds in all phases, with small heaps.
func worlds(n int) []api.World {
	out := sample.Worlds()
	p := sample.Picks(151)
	for i := range n {
		r := sample.SomeRuntime(&p, i%10, 1+i%4, 1+i/4%4)
		out = append(out, sample.World(r, sample.SomeRans([]int{0, 3, 255, 256}[p.Below(4)])...))
	}
	return out
}

// picks are picks of all kinds, for those who are there and for others.
func picks(p *sample.Picks) []api.Pick {
	var out []api.Pick
	for kind := range api.TaskCount + 2 {
		for who := -1; who < 5; who++ {
			// What a pick of the other sort has is no matter.
			out = append(out, api.Pick{Task: api.Task{Kind: kind, Who: who}, Who: p.Below(5), Op: sample.SomeOp(p)})
		}
	}
	for _, kind := range append(sample.OpKinds(), sample.BadOpKinds()...) {
		for who := -1; who < 5; who++ {
			op := sample.SomeOp(p)
			op.Kind = kind
			if p.Below(9) == 0 {
				op.A, op.B, op.Field = p.Below(6)-1, p.Below(6)-1, p.Below(6)-1
			}
			out = append(out, api.Pick{Mutator: true, Who: who, Op: op, Task: api.Task{Kind: api.TaskKind(p.Below(8)), Who: p.Below(4)}})
		}
	}
	return out
}
