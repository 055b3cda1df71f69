package sample

import (
	"math"
	"slices"

	"besom/api"
)

// NewProgram is the program of the examples of chapter 28: it makes an object of one field, and ends.
func NewProgram() []api.Instr {
	return []api.Instr{Do(api.Op{Kind: api.OpNew, Shape: api.Shape{N: 1}}), {Kind: api.InstrHalt}}
}

// NewVm is the machine of these examples, before its first event.
func NewVm() api.Vm {
	return Vm(Runtime(Gc(api.PhaseIdle, Off(Heap(4, nil), 2)), Mutator()), []api.Thread{{Code: NewProgram()}})
}

// FiveEvents are the events of these examples.
func FiveEvents() []api.Event {
	return []api.Event{Turn(0, 1), Tasked(api.TaskStart, 0, 1), Tasked(api.TaskWork, 0, 1), Turn(0, 1), Turn(0, 1)}
}

// FiveNotes are notes of these events, with the errors of the chapter, and any checksums.
func FiveNotes() []api.Note {
	var out []api.Note
	for i, e := range FiveEvents() {
		why := []api.Errno{api.OK, api.OK, api.ErrNone, api.OK, api.ErrState}[i]
		out = append(out, api.Note{Event: e, Err: why, Sum: 0x123456789abcdef0 * uint64(i)})
	}
	return out
}

// AnyEvent returns an event that happens once, whether or not it names what there is.
func AnyEvent(p *Picks) api.Event {
	e := SomeEvent(p, 1)
	if p.Below(4) == 0 {
		e.Who = anyWho(p)
	}
	if p.Below(4) == 0 {
		e.Task = api.Task{Kind: api.TaskKind(p.Word() >> 40), Who: anyWho(p)}
	}
	return e
}

func anyWho(p *Picks) int {
	return []int{-1, 0, 1, 3, 4, 255, 256, math.MinInt, math.MaxInt, int(p.Word())}[p.Below(10)]
}

// AnyEvents returns so many of them.
func AnyEvents(p *Picks, count int) []api.Event {
	var out []api.Event
	for range count {
		out = append(out, AnyEvent(p))
	}
	return out
}

// SomeNote returns a note that may be in a valid list.
func SomeNote(p *Picks) api.Note {
	small := func() int {
		return []int{0, 0, 1, 2, 127, 128, 254, 255, p.Below(256)}[p.Below(9)]
	}
	e := api.Event{Thread: p.Below(2) == 0, Who: small(), Task: api.Task{Kind: api.TaskKind(small()), Who: small()}, Times: 1}
	return api.Note{Event: e, Err: api.Errno(small()), Sum: p.Word() << p.Below(64) >> p.Below(64)}
}

// SomeNotes returns so many of them.
func SomeNotes(p *Picks, count int) []api.Note {
	var out []api.Note
	for range count {
		out = append(out, SomeNote(p))
	}
	return out
}

// NoteLists returns valid lists of notes: without notes, small ones, and some that have as many notes as there may be.
func NoteLists() [][]api.Note {
	p := Picks(321)
	out := [][]api.Note{nil, {}, FiveNotes()}
	for i := range 200 {
		out = append(out, SomeNotes(&p, 1+i%30))
	}
	for _, sum := range []uint64{0, 1, 255, 256, 1 << 56, 1<<63 - 1, 1 << 63, 0x0102030405060708, math.MaxUint64} {
		out = append(out, []api.Note{{Event: Turn(0, 1), Sum: sum}})
	}
	return append(out, SomeNotes(&p, 4095), SomeNotes(&p, 4096))
}

// BadNotes returns notes that may not be in a valid list, each for a reason of its own.
func BadNotes() []api.Note {
	var bad []api.Note
	numbers := []int{math.MinInt, math.MinInt + 1, -256, -255, -1, 256, 257, 511, 512, 4096, 1 << 32, 1<<32 + 1, math.MaxInt}
	for _, e := range []api.Event{Turn(0, 1), Turn(255, 1), Tasked(api.TaskScan, 1, 1), Tasked(255, 255, 1)} {
		for _, n := range numbers {
			whose, whom := e, e
			whose.Who, whom.Task.Who = n, n
			bad = append(bad, api.Note{Event: whose}, api.Note{Event: whom}, api.Note{Event: e, Err: api.Errno(n)})
		}
		for _, times := range append(numbers, 0, 2, 255) {
			bad = append(bad, api.Note{Event: Often(e, times)}, api.Note{Event: Often(e, times), Err: api.ErrState, Sum: math.MaxUint64})
		}
	}
	return append(bad, api.Note{})
}

// BadNoteLists returns lists of notes that are not valid, each for a reason of its own.
func BadNoteLists() [][]api.Note {
	p := Picks(322)
	bad := [][]api.Note{SomeNotes(&p, 4097), SomeNotes(&p, 8192), slices.Repeat(FiveNotes(), 820), make([]api.Note, 4097), make([]api.Note, 4096)}
	for i, n := range BadNotes() {
		bad = append(bad, []api.Note{n}, slices.Insert(SomeNotes(&p, 6), i%7, n))
	}
	return append(bad, append(SomeNotes(&p, 4095), BadNotes()[0]))
}

// SpoilNotes returns a function that changes a list, and all that lies behind its end.
func SpoilNotes(l []api.Note) func() {
	return spoil(l, func(n *api.Note) { n.Sum += 1000 })
}

// RoomyNotes returns a list in memory that goes on behind its end, where a careless append would write to, and a function that reports whether what lies there is as it was.
func RoomyNotes(l []api.Note) ([]api.Note, func() bool) {
	rest := extend(&l, api.Note{Sum: 77})
	return l, rest
}
