package sample

import (
	"slices"

	"besom/api"
)

// World returns a world. It does not ask whether it is valid.
func World(r api.Runtime, ran ...api.Ran) api.World {
	return CopyWorld(api.World{Runtime: r, Ran: ran})
}

// CopyRan returns what was run with fields of its own.
func CopyRan(x api.Ran) api.Ran {
	x.Fields = slices.Clone(x.Fields)
	return x
}

// CopyWorld returns the world with memory of its own.
func CopyWorld(w api.World) api.World {
	w.Runtime = CopyRuntime(w.Runtime)
	w.Ran = slices.Clone(w.Ran)
	for i, x := range w.Ran {
		w.Ran[i] = CopyRan(x)
	}
	return w
}

// SameWorlds reports whether two worlds are alike; a nil list is an empty one.
func SameWorlds(a, b api.World) bool {
	return SameRuntimes(a.Runtime, b.Runtime) && slices.EqualFunc(a.Ran, b.Ran, SameRan)
}

// SpoilsOfWorld returns functions each of which changes one list of a world, and all that lies behind its end.
func SpoilsOfWorld(w api.World) []func() {
	return append(SpoilsOfRuntime(w.Runtime), SpoilsOfRan(w.Ran)...)
}

// RoomyWorld returns a world in memory that goes on behind its lists, where a careless append would write to, and a function that reports whether what lies there is as it was.
func RoomyWorld(w api.World) (api.World, func() bool) {
	w = CopyWorld(w)
	r, rest := RoomyRuntime(w.Runtime)
	w.Runtime = r
	rests := []func() bool{rest}
	for i := range w.Ran {
		rests = append(rests, extend(&w.Ran[i].Fields, 77))
	}
	rests = append(rests, extendBy(&w.Ran, SomeRan(77), func(x api.Ran) bool { return SameRan(x, SomeRan(77)) }))
	return w, every(rests)
}

// WovenWorlds returns valid worlds whose lists share memory, in each phase.
func WovenWorlds() []api.World {
	var out []api.World
	for _, r := range WovenRuntimes() {
		fields := []uint64{16, 18, 20}
		ran := api.Ran{Item: FinalItem(16, 1), Fields: fields}
		r.Gc.Weak = fields[:2]
		out = append(out, api.World{Runtime: r, Ran: []api.Ran{ran, ran, {Item: FinalItem(18, 2), Fields: fields[1:2]}}})
	}
	return out
}

// SomeRan returns what was run: nobody asks whether there ever was such an object.
func SomeRan(n int) api.Ran {
	switch n % 4 {
	case 0:
		return api.Ran{}
	case 1:
		return api.Ran{Item: CleanItem(uint64(n))}
	}
	return api.Ran{Item: FinalItem(uint64(n), uint64(n)), Fields: Rising(uint64(n), n%5)}
}

// SomeRans returns so many of them.
func SomeRans(n int) []api.Ran {
	var out []api.Ran
	for i := range n {
		out = append(out, SomeRan(i))
	}
	return out
}

// Worlds returns valid worlds with small heaps, in which nothing, something, and as much as is remembered was run.
func Worlds() []api.World {
	var out []api.World
	for i, r := range append(SmallRuntimes(), BusyRuntime()) {
		out = append(out, World(r, SomeRans([]int{0, 1, 5, 255, 256}[i%5])...))
	}
	return out
}

// BadWorlds returns worlds that are not valid, each for a reason of its own.
func BadWorlds() []api.World {
	bad := []api.World{{}, {Ran: SomeRans(3)}}
	for i, r := range BadRuntimes() {
		bad = append(bad, World(r, SomeRans(i%3)...))
	}
	for i, r := range SmallRuntimes() {
		bad = append(bad, World(r, SomeRans(257+i*i)...))
	}
	return append(bad, World(BusyRuntime(), SomeRans(257)...), World(ThreeLists(), make([]api.Ran, 257)...), World(ThreeLists(), make([]api.Ran, 5000)...))
}
