package sample

import (
	"math"
	"slices"

	"besom/api"
)

// Idle returns a pacer of so many mutators that is not On. It does not ask whether it is valid.
func Idle(percent int, least, live uint64, mutators int) api.Pacer {
	return api.Pacer{Percent: percent, Least: least, Live: live, Debts: make([]uint64, mutators)}
}

// Pacing returns the pacer when it is On, with these steps and words, and these debts.
func Pacing(p api.Pacer, est, room, credit, done, made uint64, debts ...uint64) api.Pacer {
	p.On, p.Est, p.Room, p.Credit, p.Done, p.Made, p.Debts = true, est, room, credit, done, made, slices.Clone(debts)
	return p
}

// CopyPacer returns the pacer with memory of its own.
func CopyPacer(p api.Pacer) api.Pacer {
	p.Debts = slices.Clone(p.Debts)
	return p
}

// SamePacers reports whether two pacers are alike; a nil list is an empty one.
func SamePacers(a, b api.Pacer) bool {
	return a.Percent == b.Percent && a.Least == b.Least && a.Live == b.Live && a.On == b.On && a.Est == b.Est && a.Room == b.Room &&
		a.Credit == b.Credit && a.Done == b.Done && a.Made == b.Made && slices.Equal(a.Debts, b.Debts)
}

// SpoilsOfPacer returns functions each of which changes one list of a pacer, and all that lies behind its end.
func SpoilsOfPacer(p api.Pacer) []func() {
	return []func(){SpoilWords(p.Debts)}
}

// RoomyPacer returns a pacer in memory that goes on behind its lists, where a careless append would write to, and a function that reports whether what lies there is as it was.
func RoomyPacer(p api.Pacer) (api.Pacer, func() bool) {
	p = CopyPacer(p)
	rest := extend(&p.Debts, 77)
	return p, rest
}

// Pacers returns valid pacers.
func Pacers() []api.Pacer {
	const most = 1 << 40
	var out []api.Pacer
	for i, p := range []api.Pacer{
		Idle(50, 100, 0, 2), Idle(50, 100, 400, 2), Idle(100, 1, 1000, 1), Idle(1, 1, 0, 4), Idle(1, 1, 99, 3), Idle(1, 1, 1, 1), Idle(3, 1, 33, 1),
		Idle(10000, 1, 1, 2), Idle(10000, most, most, 4), Idle(10000, 1, most-1, 1), Idle(1, most, 0, 1), Idle(1, 1, most, 2), Idle(100, 1, most/2, 2), Idle(100, 1, most/2+1, 2), Idle(7, 20, 19, 3),
	} {
		out = append(out, p,
			Pacing(p, 1, 1, 0, 0, 0, slices.Repeat([]uint64{0}, 1+i%4)...),
			Pacing(p, 400, 40, 11, 42, 4, Rising(uint64(i), 1+i%4)...),
			Pacing(p, 7, 3, uint64(i), 5, 6, 0, 9, 0, 1<<30),
			Pacing(p, most, 1, most, most, most, slices.Repeat([]uint64{most}, 1+i%4)...),
			Pacing(p, most-1, most, most-1, most-1, most-1, 0, most-1, most))
	}
	return out
}

// BadPacers returns pacers that are not valid, each for a reason of its own.
func BadPacers() []api.Pacer {
	bad := []api.Pacer{{}, {On: true}, {Debts: []uint64{0}}}
	idle := Idle(50, 100, 400, 2)
	on := Pacing(idle, 400, 40, 11, 42, 4, 3, 0)
	for _, p := range []api.Pacer{idle, on} {
		for _, n := range []int{math.MinInt, math.MinInt + 50, -4097, -50, -1, 0, 10001, 1 << 32, 1<<32 + 50, math.MaxInt} {
			bad = append(bad, changedPacer(p, func(p *api.Pacer) { p.Percent = n }))
		}
		bad = append(bad, changedPacer(p, func(p *api.Pacer) { p.Least = 0 }))
		for _, n := range []int{0, 5, 6, 64, 1000} {
			bad = append(bad, changedPacer(p, func(p *api.Pacer) { p.Debts = make([]uint64, n) }))
		}
		for _, n := range []uint64{1<<40 + 1, 1<<41 - 1, 1 << 41, 1 << 63, math.MaxUint64} {
			for _, change := range numbersOfPacer(n) {
				bad = append(bad, changedPacer(p, change))
			}
		}
	}
	for _, n := range []uint64{1, 2, 1 << 40} {
		// Those behind the first two are 0 while no collection is in progress.
		for _, change := range numbersOfPacer(n)[2:] {
			bad = append(bad, changedPacer(idle, change))
		}
	}
	return append(bad, changedPacer(on, func(p *api.Pacer) { p.On = false }), changedPacer(idle, func(p *api.Pacer) { p.On = true }),
		changedPacer(on, func(p *api.Pacer) { p.Est = 0 }), changedPacer(on, func(p *api.Pacer) { p.Room = 0 }))
}

// changedPacer returns a copy of p in which one thing was changed.
func changedPacer(p api.Pacer, change func(p *api.Pacer)) api.Pacer {
	p = CopyPacer(p)
	change(&p)
	return p
}

// numbersOfPacer are the places of a pacer where a number of words or steps is, each as what is changed to put one there. The first two have one at any time.
func numbersOfPacer(n uint64) []func(p *api.Pacer) {
	return []func(p *api.Pacer){
		func(p *api.Pacer) { p.Least = n }, func(p *api.Pacer) { p.Live = n }, func(p *api.Pacer) { p.Est = n },
		func(p *api.Pacer) { p.Room = n }, func(p *api.Pacer) { p.Credit = n }, func(p *api.Pacer) { p.Done = n },
		func(p *api.Pacer) { p.Made = n }, func(p *api.Pacer) { p.Debts[0] = n }, func(p *api.Pacer) { p.Debts[1] = n },
	}
}

// SomePacer returns a valid pacer of so many mutators.
func SomePacer(p *Picks, mutators int) api.Pacer {
	out := Idle(1+p.Below(10000), max(1, SomeNumber(p)), SomeNumber(p), mutators)
	if p.Below(2) == 0 {
		out.Percent = 1 + p.Below(300)
	}
	if p.Below(4) == 0 {
		return out
	}
	var debts []uint64
	for range mutators {
		debts = append(debts, SomeNumber(p))
	}
	return Pacing(out, max(1, SomeNumber(p)), max(1, SomeNumber(p)), SomeNumber(p), SomeNumber(p), SomeNumber(p), debts...)
}

// SomeNumber returns a number of words or steps of a pacer: 0, the greatest one, or any size between them.
func SomeNumber(p *Picks) uint64 {
	const most = 1 << 40
	n := p.Word() >> 20 % (most + 1) >> p.Below(41)
	if p.Below(9) == 0 {
		return most - n
	}
	return n
}
