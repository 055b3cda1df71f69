package sample

import (
	"math"
	"slices"

	"besom/api"
)

// Final returns a finalizer.
func Final(addr, tag uint64) api.Special {
	return api.Special{Addr: addr, Kind: api.SpecialFinal, Tag: tag}
}

// Cleanup returns a cleanup.
func Cleanup(addr, tag uint64) api.Special {
	return api.Special{Addr: addr, Kind: api.SpecialClean, Tag: tag}
}

// Specials returns valid lists of specials.
func Specials() [][]api.Special {
	var finals, mixed []api.Special
	for i := range uint64(64) {
		finals = append(finals, Final(i+1, i))
		mixed = append(mixed, Cleanup(16+i/4, math.MaxUint64-i))
		if i%4 == 2 {
			mixed[i].Kind = api.SpecialFinal
		}
	}
	return [][]api.Special{
		nil,
		{Final(16, 2), Cleanup(16, 5), Cleanup(20, 1), Cleanup(20, 3), Final(20, 4)},
		{Final(1, 0)},
		{Cleanup(math.MaxUint64, math.MaxUint64)},
		{Final(15, 1), Final(16, 1), Final(17, 1)},
		{Cleanup(16, 1), Final(16, 1), Cleanup(16, 1), Cleanup(16, 1)},
		{Cleanup(1<<32, 1), Final(1<<32, 2), Final(1<<32+16, 3), Cleanup(math.MaxUint64, 0), Final(math.MaxUint64, 0)},
		slices.Repeat([]api.Special{Cleanup(16, 7)}, 64),
		slices.Repeat([]api.Special{Cleanup(20, 7)}, 63),
		slices.Repeat([]api.Special{Cleanup(20, 7)}, 62),
		finals,
		finals[1:],
		mixed,
	}
}

// BadSpecials returns lists of specials that are not valid, each for a reason of its own.
func BadSpecials() [][]api.Special {
	bad := [][]api.Special{
		{{}}, {{Kind: api.SpecialFinal}}, {Cleanup(0, 1)}, {Cleanup(0, 1), Final(16, 1)},
		{Final(16, 1), Final(16, 2)}, {Final(16, 1), Final(16, 1)}, {Final(16, 1), Cleanup(16, 1), Cleanup(16, 2), Final(16, 2)},
		{Final(15, 1), Cleanup(16, 1), Final(16, 1), Final(16, 2), Cleanup(20, 1)},
		{Final(20, 1), Final(16, 1)}, {Final(16, 1), Cleanup(20, 1), Final(17, 1)}, {Cleanup(math.MaxUint64, 1), Cleanup(1, 1)}, {Cleanup(1<<32+1, 1), Cleanup(2, 1)},
		{Cleanup(16, 1), Cleanup(20, 1), Cleanup(20, 1), Cleanup(16, 1)},
		slices.Repeat([]api.Special{Cleanup(16, 7)}, 65),
		slices.Repeat([]api.Special{Cleanup(16, 7)}, 128),
	}
	for _, kind := range []api.SpecialKind{0, 3, 4, 128, 129, 130, 255} {
		s := api.Special{Addr: 16, Kind: kind, Tag: 1}
		bad = append(bad, []api.Special{s}, []api.Special{Final(16, 1), s}, []api.Special{s, Cleanup(20, 1)})
	}
	return bad
}
