package trace_test

import (
	"encoding/binary"
	"hash/fnv"
	"slices"

	"besom/api"
	"besom/sample"
	"besom/vm"
)

// What the chapter's words say, written down once more, and without regard for speed.

var same = sample.SameVms

// fnv1a is the checksum of numbers.
func fnv1a(numbers ...uint64) uint64 {
	h := fnv.New64a()
	for _, n := range numbers {
		h.Write(binary.LittleEndian.AppendUint64(nil, n))
	}
	return h.Sum64()
}

// truth is the number of true or false.
func truth(b bool) uint64 {
	if b {
		return 1
	}
	return 0
}

// counted is a list behind the number of its elements, each of which is some numbers.
func counted(lists ...[]uint64) []uint64 {
	return append([]uint64{uint64(len(lists))}, slices.Concat(lists...)...)
}

// words is a list of words behind their number.
func words(l []uint64) []uint64 {
	return append([]uint64{uint64(len(l))}, l...)
}

func vector(b api.Bits) []uint64 {
	return append([]uint64{uint64(b.N)}, words(b.W)...)
}

// numbers are those whose checksum is that of a machine, in the order of the chapter.
func numbers(v api.Vm) []uint64 {
	g, h := v.Runtime.Gc, v.Runtime.Gc.Marker.Heap
	var spans, queues, hands, slots, specials, items, mutators, threads [][]uint64
	for _, s := range h.Spans {
		spans = append(spans, slices.Concat([]uint64{uint64(s.First), uint64(s.Pages), uint64(s.Size)}, vector(s.Alloc), vector(s.Mark), []uint64{truth(s.Swept)}))
	}
	for _, q := range g.Marker.Grey.Queues {
		queues = append(queues, words(q))
	}
	for _, x := range g.Marker.Hands {
		hands = append(hands, []uint64{x.Obj, uint64(x.Field)})
	}
	for _, s := range g.Table.Slots {
		slots = append(slots, []uint64{uint64(s.State), s.Key, s.Val})
	}
	for _, s := range g.Specials {
		specials = append(specials, []uint64{s.Addr, uint64(s.Kind), s.Tag})
	}
	for _, i := range g.Queue {
		items = append(items, []uint64{uint64(i.Kind), i.Addr, i.Tag})
	}
	for _, m := range v.Runtime.Mutators {
		var regs [][]uint64
		for _, r := range m.Regs {
			regs = append(regs, []uint64{truth(r.Ref), r.W})
		}
		mutators = append(mutators, append([]uint64{truth(m.Scanned)}, counted(regs...)...))
	}
	for _, t := range v.Threads {
		threads = append(threads, []uint64{uint64(t.Pc), truth(t.Halted), uint64(t.Err), t.Steps})
	}
	return slices.Concat(
		[]uint64{uint64(g.Phase), truth(g.Marker.On)}, words(h.Arena.Words), vector(h.Pages.Used),
		counted(spans...), counted(queues...), counted(hands...),
		counted(slots...), counted(specials...), words(g.Weak), counted(items...),
		counted(mutators...), counted(threads...))
}

// summed is what Sum answers.
func summed(v api.Vm) (uint64, api.Errno) {
	if vm.Check(v) != api.OK {
		return 0, api.ErrForm
	}
	return fnv1a(numbers(v)...), api.OK
}

// happened is what becomes of a valid machine by an event, with its note.
func happened(v api.Vm, e api.Event) (api.Vm, api.Note) {
	var out api.Vm
	var why api.Errno
	if e.Thread {
		out, why = vm.Step(v, e.Who)
	} else {
		out, _, why = vm.Task(v, e.Task)
	}
	if why != api.OK {
		out = v
	}
	return out, api.Note{Event: e, Err: why, Sum: fnv1a(numbers(out)...)}
}

// once reports whether there are no more than 4096 events, each of which is to happen once.
func once(l []api.Event) bool {
	for _, e := range l {
		if e.Times != 1 {
			return false
		}
	}
	return len(l) <= 4096
}

// recorded is what Record answers.
func recorded(v api.Vm, l []api.Event) (api.Vm, []api.Note, api.Errno) {
	if vm.Check(v) != api.OK {
		return api.Vm{}, nil, api.ErrForm
	}
	if !once(l) {
		return v, nil, api.ErrRange
	}
	var notes []api.Note
	for _, e := range l {
		after, n := happened(v, e)
		v, notes = after, append(notes, n)
	}
	return v, notes, api.OK
}

// replayed is what Replay answers.
func replayed(v api.Vm, l []api.Note) (api.Vm, int, api.Errno) {
	if vm.Check(v) != api.OK {
		return api.Vm{}, 0, api.ErrForm
	}
	var events []api.Event
	for _, n := range l {
		events = append(events, n.Event)
	}
	if !once(events) {
		return v, 0, api.ErrRange
	}
	for i, n := range l {
		after, got := happened(v, n.Event)
		if got.Err != n.Err || got.Sum != n.Sum {
			return v, i, api.ErrState
		}
		v = after
	}
	return v, len(l), api.OK
}

// encoded is what Encode answers.
func encoded(l []api.Note) (string, api.Errno) {
	if len(l) > 4096 {
		return "", api.ErrForm
	}
	var out []byte
	for _, n := range l {
		fields := []int{int(truth(n.Event.Thread)), n.Event.Who, int(n.Event.Task.Kind), n.Event.Task.Who, int(n.Err)}
		for _, field := range fields {
			if field < 0 || field > 255 || n.Event.Times != 1 {
				return "", api.ErrForm
			}
			out = append(out, byte(field))
		}
		sum := n.Sum
		for range 8 {
			out = append(out, byte(sum%256))
			sum /= 256
		}
	}
	return string(out), api.OK
}

// decoded is what Decode answers.
func decoded(s string) ([]api.Note, api.Errno) {
	if len(s)%13 != 0 || len(s) > 13*4096 {
		return nil, api.ErrForm
	}
	var out []api.Note
	for i := 0; i < len(s); i += 13 {
		if s[i] != 0 && s[i] != 1 {
			return nil, api.ErrForm
		}
		n := api.Note{Err: api.Errno(s[i+4])}
		n.Event = api.Event{Thread: s[i] == 1, Who: int(s[i+1]), Task: api.Task{Kind: api.TaskKind(s[i+2]), Who: int(s[i+3])}, Times: 1}
		for k := 12; k >= 5; k-- {
			n.Sum = 256*n.Sum + uint64(s[i+k])
		}
		out = append(out, n)
	}
	return out, api.OK
}

// apart is what Apart answers.
func apart(a, b []api.Note) (int, api.Errno) {
	if slices.Equal(a, b) {
		return 0, api.ErrNone
	}
	at := 0
	for at < len(a) && at < len(b) && a[at] == b[at] {
		at++
	}
	return at, api.OK
}

// vms are machines with small heaps, and so many others, half of which have programs that go on and on.
func vms(seed uint64, count int) []api.Vm {
	out := []api.Vm{sample.NewVm()}
	for i, v := range sample.Vms() {
		// There are so many of them that some are enough.
		if i%3 == 0 {
			out = append(out, v)
		}
	}
	return append(out, sample.SomeVms(seed, count)...)
}
