package sample

import (
	"math"
	"slices"

	"besom/api"
)

// Grey returns the queues. It does not ask whether they are valid.
func Grey(queues ...[]uint64) api.Grey {
	return CopyGrey(api.Grey{Queues: queues})
}

// CopyGrey returns the queues with memory of their own.
func CopyGrey(g api.Grey) api.Grey {
	g.Queues = slices.Clone(g.Queues)
	for i, q := range g.Queues {
		g.Queues[i] = slices.Clone(q)
	}
	return g
}

// SameGreys reports whether two values are alike; a nil list is an empty one.
func SameGreys(a, b api.Grey) bool {
	return slices.EqualFunc(a.Queues, b.Queues, func(p, q []uint64) bool {
		return slices.Equal(p, q)
	})
}

// Popped takes an address out of the queues as grey.Pop does, and changes them. There has to be one.
func Popped(g api.Grey, worker int) uint64 {
	if n := len(g.Queues[worker]); n > 0 {
		addr := g.Queues[worker][n-1]
		g.Queues[worker] = g.Queues[worker][:n-1]
		return addr
	}
	most := slices.MaxFunc(g.Queues, func(a, b []uint64) int { return len(a) - len(b) })
	from := slices.IndexFunc(g.Queues, func(q []uint64) bool { return len(q) == len(most) })
	g.Queues[from] = most[1:]
	return most[0]
}

// Greys returns valid queues, small ones first.
func Greys() []api.Grey {
	return []api.Grey{
		Grey(nil),
		Grey(nil, nil),
		Grey(nil, nil, nil, nil),
		Grey([]uint64{}, nil),
		Grey([]uint64{1}),
		Grey([]uint64{math.MaxUint64}, nil),
		Grey(nil, []uint64{16}),
		Grey([]uint64{2, 4, 6}, nil, []uint64{8, 10, 12}),
		Grey(nil, []uint64{8, 10, 12}, []uint64{2, 4, 6}),
		Grey(nil, []uint64{9}, []uint64{7, 5}, []uint64{3, 1}),
		Grey([]uint64{3, 1, 2}, []uint64{9, 8}, nil, []uint64{5, 7, 6}),
		Grey([]uint64{math.MaxUint64, 1, 1 << 63, 1 << 32, 16, 1<<32 + 16}),
		Grey([]uint64{5, 4, 3, 2, 1}, []uint64{10, 9, 8, 7, 6}, []uint64{11, 12, 13, 14, 15}, []uint64{20, 16, 19, 17, 18}),
		Grey(nil, Rising(100, 70), Rising(1, 70), Rising(1000, 69)),
		Grey(Rising(1, 16383)),
		Grey(Rising(1, 16384), nil),
		Grey(nil, Rising(1<<40, 16384)),
		Grey(Rising(1, 4096), Rising(4097, 4096), Rising(8193, 4096), Rising(12289, 4096)),
		Grey(Rising(1, 4096), Rising(4097, 4096), Rising(8193, 4096), Rising(12289, 4095)),
	}
}

// BadGreys returns queues that are not valid, each for a reason of its own.
func BadGreys() []api.Grey {
	all := Rising(1, 16384)
	ends := slices.Clone(all)
	ends[16383] = 1
	return []api.Grey{
		{},
		Grey(nil, nil, nil, nil, nil),
		Grey([]uint64{1}, nil, nil, nil, []uint64{2}),
		{Queues: make([][]uint64, 1000)},
		Grey([]uint64{0}),
		Grey([]uint64{0}, nil, nil),
		Grey([]uint64{2, 4}, []uint64{6, 0}),
		Grey([]uint64{2, 0, 4}, []uint64{6}),
		Grey(nil, nil, nil, []uint64{0, 8}),
		Grey([]uint64{2, 2}),
		Grey([]uint64{2, 4, 6, 2}),
		Grey([]uint64{2, 4}, []uint64{6, 4}),
		Grey([]uint64{2}, nil, nil, []uint64{2}),
		Grey([]uint64{math.MaxUint64, 1}, []uint64{math.MaxUint64}),
		Grey(ends),
		Grey(Rising(1, 16385)),
		Grey(nil, Rising(1<<40, 16385)),
		Grey(all, []uint64{16385}),
		Grey(all, []uint64{1}),
		Grey(all, []uint64{0}),
		Grey(Rising(1, 4096), Rising(4097, 4096), Rising(8193, 4096), Rising(12289, 4097)),
		Grey(Rising(1, 50000)),
	}
}
