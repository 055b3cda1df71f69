package pace_test

import (
	"math"
	"math/big"

	"besom/api"
	"besom/sample"
)

// What the chapter's words say of pacers, written down once more, in numbers that know of no greatest one.

var same = sample.SamePacers

const most = 1 << 40

// number is n as a number of any size.
func number(n uint64) *big.Int {
	return new(big.Int).SetUint64(n)
}

// part is n times a / b, rounded down, and rest what that leaves.
func part(n, a, b uint64) (*big.Int, bool) {
	product := new(big.Int).Mul(number(n), number(a))
	quotient, rest := new(big.Int).QuoRem(product, number(b), new(big.Int))
	return quotient, rest.Sign() > 0
}

// plus is a sum, or the greatest number that there may be.
func plus(a uint64, b *big.Int) uint64 {
	sum := new(big.Int).Add(number(a), b)
	if sum.Cmp(number(most)) > 0 {
		return most
	}
	return sum.Uint64()
}

func valid(p api.Pacer) bool {
	zero := p.Est == 0 && p.Room == 0 && p.Credit == 0 && p.Done == 0 && p.Made == 0
	for _, n := range append([]uint64{p.Least, p.Live, p.Est, p.Room, p.Credit, p.Done, p.Made}, p.Debts...) {
		if n > most {
			return false
		}
	}
	for _, debt := range p.Debts {
		zero = zero && debt == 0
	}
	switch {
	case p.Percent < 1, p.Percent > 10000, p.Least == 0, len(p.Debts) == 0, len(p.Debts) > 4:
		return false
	case p.On:
		return p.Est > 0 && p.Room > 0
	}
	return zero
}

// aims are the goal and the trigger.
func aims(p api.Pacer) (uint64, uint64) {
	more, _ := part(p.Live, uint64(p.Percent), 100)
	goal := plus(p.Live, more)
	if goal < p.Least {
		goal = p.Least
	}
	tenths, _ := part(goal-p.Live, 7, 10)
	return goal, plus(p.Live, tenths)
}

// begun is what Begin answers.
func begun(p api.Pacer, heap uint64) (api.Pacer, api.Errno) {
	switch {
	case p.On:
		return p, api.ErrState
	case heap > most:
		return p, api.ErrRange
	}
	p = sample.CopyPacer(p)
	goal, _ := aims(p)
	p.On, p.Est, p.Room = true, p.Live, goal/20
	if heap < goal && goal-heap > p.Room {
		p.Room = goal - heap
	}
	if p.Est == 0 {
		p.Est = 1
	}
	if p.Room == 0 {
		p.Room = 1
	}
	return p, api.OK
}

// ended is what End answers.
func ended(p api.Pacer, live uint64) (api.Pacer, api.Errno) {
	switch {
	case !p.On:
		return p, api.ErrState
	case live > most:
		return p, api.ErrRange
	}
	return sample.Idle(p.Percent, p.Least, live, len(p.Debts)), api.OK
}

// allocated is what Alloc answers.
func allocated(p api.Pacer, who int, words uint64) (api.Pacer, uint64, api.Errno) {
	switch {
	case who < 0 || who >= len(p.Debts):
		return p, 0, api.ErrTask
	case words > 1<<20:
		return p, 0, api.ErrRange
	case !p.On:
		return p, 0, api.OK
	}
	p = sample.CopyPacer(p)
	p.Made = plus(p.Made, number(words))
	steps, rest := part(words, p.Est, p.Room)
	if rest {
		steps.Add(steps, number(1))
	}
	debt := plus(p.Debts[who], steps)
	if debt >= p.Credit {
		debt, p.Credit = debt-p.Credit, 0
	} else {
		debt, p.Credit = 0, p.Credit-debt
	}
	p.Debts[who] = debt
	return p, debt, api.OK
}

// worked is what Work answers.
func worked(p api.Pacer, who int, steps ...uint64) (api.Pacer, api.Errno) {
	switch {
	case who < -1 || who >= len(p.Debts):
		return p, api.ErrTask
	case !p.On:
		return p, api.ErrState
	}
	for _, n := range steps {
		if n > most {
			return p, api.ErrRange
		}
	}
	p = sample.CopyPacer(p)
	for _, n := range steps {
		p.Done = plus(p.Done, number(n))
		left := n
		if who >= 0 && p.Debts[who] >= n {
			p.Debts[who], left = p.Debts[who]-n, 0
		} else if who >= 0 {
			p.Debts[who], left = 0, n-p.Debts[who]
		}
		p.Credit = plus(p.Credit, number(left))
	}
	return p, api.OK
}

// pacers are valid pacers of all kinds.
func pacers(n int) []api.Pacer {
	out := sample.Pacers()
	p := sample.Picks(171)
	for i := range n {
		out = append(out, sample.SomePacer(&p, 1+i%4))
	}
	return out
}

// numbers are numbers of words and steps, at the edges of their type and of what may be, and for a pacer at those of its own.
func numbers(p api.Pacer) []uint64 {
	goal, trigger := aims(p)
	out := []uint64{0, 1, 2, 3, 39, 40, 41, 400, 1<<20 - 1, 1 << 20, 1<<20 + 1, 1 << 32, most - 1, most, most + 1, 1 << 63, math.MaxInt64, math.MaxUint64 - 1, math.MaxUint64}
	for _, n := range []uint64{goal, trigger, p.Live, goal / 20, goal - goal/20} {
		out = append(out, n-1, n, n+1)
	}
	return out
}

// mutators are numbers of mutators that there may be, and numbers that are none.
func mutators() []int {
	return append(sample.Ints(), -5, -3, -2, -1, 0, 1, 2, 3, 4, 5, 1<<32+1, math.MinInt+2)
}

// lists are lists of numbers of steps, some of which are too great.
func lists(p api.Pacer) [][]uint64 {
	return [][]uint64{
		nil, {}, {0}, {1}, {0, 0}, {5, 6}, {31}, {1, 2, 3, 4, 5, 6, 7, 8, 9}, {most}, {most, most}, {most - 1, 1, 1}, {0, most, 1},
		p.Debts, {p.Debts[0]}, {p.Debts[0] / 2, p.Debts[0]}, {p.Credit, p.Done}, sample.Rising(1, 500),
		{most + 1}, {0, 1, most + 1}, {most + 1, 5}, {math.MaxUint64}, {1, math.MaxUint64, 1}, {1 << 63, 1 << 63}, {math.MaxUint64, 1},
	}
}
