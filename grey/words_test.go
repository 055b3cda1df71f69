package grey_test

import (
	"math"
	"slices"

	"besom/api"
	"besom/sample"
)

// What the chapter's words say of queues, written down once more, and without regard for speed.

var same = sample.SameGreys

func all(g api.Grey) []uint64 {
	return slices.Concat(g.Queues...)
}

func valid(g api.Grey) bool {
	l := all(g)
	slices.Sort(l)
	for i, addr := range l {
		if addr == 0 || i > 0 && l[i-1] == addr {
			return false
		}
	}
	return len(g.Queues) >= 1 && len(g.Queues) <= 4 && len(l) <= 16384
}

func isWorker(g api.Grey, worker int) bool {
	return worker >= 0 && worker < len(g.Queues)
}

// pushed is what Push answers.
func pushed(g api.Grey, worker int, addrs []uint64) (api.Grey, api.Errno) {
	if !isWorker(g, worker) {
		return g, api.ErrTask
	}
	in := all(g)
	for _, addr := range addrs {
		switch {
		case addr == 0:
			return g, api.ErrNil
		case slices.Contains(in, addr):
			return g, api.ErrTwice
		case len(in) == 16384:
			return g, api.ErrFull
		}
		in = append(in, addr)
	}
	out := sample.CopyGrey(g)
	for _, addr := range addrs {
		out.Queues[worker] = append(out.Queues[worker], addr)
	}
	return out, api.OK
}

// popped is what Pop answers.
func popped(g api.Grey, worker int) (api.Grey, uint64, bool, api.Errno) {
	if !isWorker(g, worker) {
		return g, 0, false, api.ErrTask
	}
	if len(all(g)) == 0 {
		return g, 0, false, api.ErrNone
	}
	out := sample.CopyGrey(g)
	if n := len(g.Queues[worker]); n > 0 {
		addr := g.Queues[worker][n-1]
		out.Queues[worker] = slices.Delete(out.Queues[worker], n-1, n)
		return out, addr, false, api.OK
	}
	most := 0
	for _, q := range g.Queues {
		most = max(most, len(q))
	}
	from := slices.IndexFunc(g.Queues, func(q []uint64) bool { return len(q) == most })
	addr := g.Queues[from][0]
	out.Queues[from] = slices.Delete(out.Queues[from], 0, 1)
	return out, addr, true, api.OK
}

// workers are numbers of workers that there may be, and numbers that are none.
func workers() []int {
	return append(sample.Ints(), -5, -4, -3, -2, 0, 1, 2, 3, 4, 5, 6, 64, 1<<32+1, math.MinInt+2)
}

// lists are lists of addresses to push.
func lists() [][]uint64 {
	return [][]uint64{
		nil, {}, {0}, {16}, {99}, {17000}, {2, 2}, {99, 99}, {50000, 0}, {0, 50000}, {50000, 50001, 50000}, {60000, 60001, 60002, 60003},
		{50000, 16, 0}, {50000, 0, 16}, {math.MaxUint64}, {1 << 63, math.MaxUint64 - 1}, {1 << 32}, {1<<32 + 16, 1<<32 + 17}, {math.MaxUint64, math.MaxUint64},
	}
}

// chapter are the queues of the chapter's examples.
func chapter() api.Grey {
	return sample.Grey([]uint64{2, 4, 6}, nil, []uint64{8, 10, 12})
}
