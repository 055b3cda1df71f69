package trace

import (
	"slices"

	"besom/api"
	"besom/vm"
)

// A note is encoded in so many bytes, from sumAt on those of its checksum.
const (
	noteBytes = 13
	sumAt     = 5
)

// happen executes an event, and returns the machine and the note of the event.
func happen(v api.Vm, e api.Event) (api.Vm, api.Note) {
	var why api.Errno
	if e.Thread {
		v, why = vm.Step(v, e.Who)
	} else {
		v, _, why = vm.Task(v, e.Task)
	}
	return v, api.Note{Event: e, Err: why, Sum: sumOf(v)}
}

// listable reports whether there are no more elements of a list than notes may be, and each is right.
func listable[T any](l []T, right func(x T) bool) bool {
	return len(l) <= api.MaxNotes && !slices.ContainsFunc(l, func(x T) bool {
		return !right(x)
	})
}

// recordable reports whether an event is to happen once.
func recordable(e api.Event) bool {
	return e.Times == 1
}

func replayable(n api.Note) bool {
	return recordable(n.Event)
}

// encodable reports whether a note may be in a valid list.
func encodable(n api.Note) bool {
	return replayable(n) && octet(n.Event.Who) && octet(n.Event.Task.Who) && octet(int(n.Err))
}

// octet reports whether a number goes into a byte.
func octet(n int) bool {
	return n >= 0 && n <= 255
}

// appendNote appends the encoding of a note, which has to be valid.
func appendNote(out []byte, n api.Note) []byte {
	e := n.Event
	out = append(out, byte(flag(e.Thread)), byte(e.Who), byte(e.Task.Kind), byte(e.Task.Who), byte(n.Err))
	return slices.AppendSeq(out, octets(n.Sum))
}

// noteOf returns the note of an encoding whose first byte is 0 or 1.
func noteOf(s string) api.Note {
	n := api.Note{Err: api.Errno(s[4])}
	n.Event = api.Event{Thread: s[0] == 1, Who: int(s[1]), Task: api.Task{Kind: api.TaskKind(s[2]), Who: int(s[3])}, Times: 1}
	for i := range noteBytes - sumAt {
		n.Sum |= uint64(s[sumAt+i]) << (8 * i)
	}
	return n
}
