package trace_test

import (
	"math"
	"slices"
	"strings"
	"testing"

	"besom/api"
	"besom/asm"
	"besom/sample"
	"besom/trace"
	"besom/vm"
)

// TestInvalidComesFirst: a machine that is not valid comes before all other errors, and there is no result.
func TestInvalidComesFirst(t *testing.T) {
	p := sample.Picks(323)
	for i, v := range sample.BadVms() {
		if sum, why := trace.Sum(v); sum != 0 || why != api.ErrForm {
			t.Errorf("Sum of invalid machine %d: %d, error %d", i, sum, why)
		}
		for _, l := range [][]api.Event{nil, sample.AnyEvents(&p, 3), {sample.Turn(0, 2)}, make([]api.Event, 4097)} {
			if got, notes, why := trace.Record(v, l...); !same(got, api.Vm{}) || len(notes) != 0 || why != api.ErrForm {
				t.Errorf("Record of invalid machine %d: %v, error %d", i, notes, why)
			}
		}
		for _, l := range [][]api.Note{nil, sample.SomeNotes(&p, 3), {{}}, make([]api.Note, 4097)} {
			if got, n, why := trace.Replay(v, l...); !same(got, api.Vm{}) || n != 0 || why != api.ErrForm {
				t.Errorf("Replay of invalid machine %d: %d, error %d", i, n, why)
			}
		}
	}
}

// 28.1

func TestSum(t *testing.T) {
	sums := map[uint64]int{}
	machines := append(vms(324, 300), sample.WovenVms()...)
	for i, v := range machines {
		want, no := summed(v)
		got, why := trace.Sum(v)
		if got != want || why != no || why != api.OK {
			t.Errorf("Sum of machine %d: %d, error %d; want %d", i, got, why, want)
		}
		sums[got]++
	}
	if len(sums) < len(machines)*9/10 {
		t.Error(len(sums), len(machines))
	}
}

// TestSumLarge: the greatest heaps have checksums, too.
func TestSumLarge(t *testing.T) {
	for _, h := range []api.Heap{sample.FullPages(), sample.FullSpans(), sample.Heap(1024, nil)} {
		v := sample.Vm(sample.Runtime(sample.Gc(api.PhaseIdle, sample.Off(h, 4)), sample.Mutator()), make([]api.Thread, 1))
		want, _ := summed(v)
		if got, why := trace.Sum(v); got != want || why != api.OK {
			t.Errorf("%d, error %d; want %d", got, why, want)
		}
	}
}

// TestSumKnown: the checksum of the smallest machine, whose numbers are written down here one by one.
func TestSumKnown(t *testing.T) {
	v := sample.Vm(sample.Runtime(sample.Gc(api.PhaseIdle, sample.Off(sample.Heap(1, nil), 1)), sample.Mutator(sample.Num(5), sample.Ref(0))), []api.Thread{{Halted: true, Err: -1, Steps: 3}})
	l := slices.Concat([]uint64{0, 0, 16}, make([]uint64, 16), []uint64{1, 1, 1},
		[]uint64{0}, []uint64{1, 0}, []uint64{1, 0, 0}, []uint64{0, 0, 0, 0},
		[]uint64{1, 0, 4, 0, 5, 1, 0, 0, 0, 0, 0}, []uint64{1, 0, 1, math.MaxUint64, 3})
	if !slices.Equal(numbers(v), l) {
		t.Fatal(numbers(v))
	}
	if sum, why := trace.Sum(v); sum != byHand(l) || why != api.OK {
		t.Errorf("%d, error %d; want %d", sum, why, byHand(l))
	}
}

// byHand calculates the checksum of numbers step by step.
func byHand(l []uint64) uint64 {
	sum := uint64(14695981039346656037)
	for _, n := range l {
		for shift := 0; shift < 64; shift += 8 {
			sum ^= n >> shift & 255
			sum *= 1099511628211
		}
	}
	return sum
}

// TestSumOf: programs, and what was run, are not among the numbers; all the rest of a thread is.
func TestSumOf(t *testing.T) {
	start := sample.Vm(sample.ThreeLists(), []api.Thread{{Code: sample.SumProgram(), Pc: 1, Steps: 7}, {Code: sample.SumProgram(), Halted: true, Err: api.ErrType}}, sample.SomeRans(2)...)
	sum, why := trace.Sum(start)
	if why != api.OK {
		t.Fatal(why)
	}
	for i, x := range []struct {
		alike  bool
		change func(v *api.Vm)
	}{
		{true, func(v *api.Vm) { v.Ran = nil }},
		{true, func(v *api.Vm) { v.Ran = sample.SomeRans(256) }},
		{true, func(v *api.Vm) { v.Threads[0].Code = sample.NewProgram() }},
		{true, func(v *api.Vm) { v.Threads[1].Code = nil }},
		{false, func(v *api.Vm) { v.Threads[0].Pc = 2 }},
		{false, func(v *api.Vm) { v.Threads[1].Pc = 8 }},
		{false, func(v *api.Vm) { v.Threads[0].Steps++ }},
		{false, func(v *api.Vm) { v.Threads[0].Steps += 1 << 63 }},
		{false, func(v *api.Vm) { v.Threads[0].Halted = true }},
		{false, func(v *api.Vm) { v.Threads[1].Err = api.OK }},
		{false, func(v *api.Vm) { v.Threads[1].Err = api.ErrType + 1<<32 }},
		{false, func(v *api.Vm) { v.Threads[1].Err = -api.ErrType }},
		{false, func(v *api.Vm) { slices.Reverse(v.Threads) }},
		{false, func(v *api.Vm) { slices.Reverse(v.Runtime.Mutators) }},
		{false, func(v *api.Vm) { v.Runtime.Mutators[1].Regs[3].W = 1 << 63 }},
		{false, func(v *api.Vm) { v.Runtime.Mutators[1].Regs[3].Ref = true }},
		{false, func(v *api.Vm) { v.Runtime.Gc.Specials[0].Tag++ }},
		{false, func(v *api.Vm) { v.Runtime.Gc.Specials[0].Kind = api.SpecialClean }},
		{false, func(v *api.Vm) { v.Runtime.Gc.Specials[0].Addr = 16 }},
		{false, func(v *api.Vm) { v.Runtime.Gc.Specials = nil }},
		{false, func(v *api.Vm) { v.Runtime.Gc.Weak = []uint64{0} }},
		{false, func(v *api.Vm) { v.Runtime.Gc.Table = sample.Pairs(8, 16, 18) }},
		{false, func(v *api.Vm) { v.Runtime.Gc.Table = sample.Pairs(8) }},
		{false, func(v *api.Vm) { v.Runtime.Gc.Queue = []api.Item{sample.CleanItem(0)} }},
		{false, func(v *api.Vm) { v.Runtime.Gc.Marker.Heap.Arena.Words[17] = 18 }},
		{false, func(v *api.Vm) { v.Runtime.Gc.Marker.Heap = sample.Marks(v.Runtime.Gc.Marker.Heap, 18) }},
	} {
		v := sample.CopyVm(start)
		x.change(&v)
		got, why := trace.Sum(v)
		if why != api.OK || got != fnv1a(numbers(v)...) || (got == sum) != x.alike {
			t.Errorf("change %d: %d and %d, error %d", i, got, sum, why)
		}
	}
}

// try tests a Record and a Replay of its notes against the chapter's words, and returns what Record answers.
func try(t *testing.T, v api.Vm, l []api.Event) (api.Vm, []api.Note, api.Errno) {
	t.Helper()
	want, list, no := recorded(v, l)
	got, notes, why := trace.Record(v, l...)
	if !same(got, want) || !slices.Equal(notes, list) || why != no {
		t.Fatalf("Record of %v: %v, error %d; want %v, %d", l, notes, why, list, no)
	}
	return got, notes, why
}

func TestRecord(t *testing.T) {
	p := sample.Picks(325)
	errs := map[api.Errno]int{}
	for i, v := range vms(326, 200) {
		l := sample.AnyEvents(&p, p.Below(40))
		got, notes, why := try(t, v, l)
		if why != api.OK || len(notes) != len(l) || vm.Check(got) != api.OK {
			t.Errorf("machine %d: error %d", i, why)
		}
		for k, n := range notes {
			errs[n.Err]++
			if n.Event != l[k] {
				t.Errorf("machine %d, event %d: %v, not %v", i, k, n.Event, l[k])
			}
		}
	}
	for _, why := range []api.Errno{api.OK, api.ErrNone, api.ErrState, api.ErrTask} {
		if errs[why] < 200 {
			t.Error("error", why, errs[why])
		}
	}
}

// times are Times that no event of a recording has.
func times() []int {
	return append(sample.Ints(), -2, 0, 2, 3, 255, 4096, 1<<32+1)
}

// TestRecordErrors: too many events, and events that are not to happen once, wherever they are.
func TestRecordErrors(t *testing.T) {
	v := sample.NewVm()
	many := slices.Repeat([]api.Event{sample.Tasked(api.TaskSweep, 0, 1)}, 4097)
	lists := [][]api.Event{many, slices.Repeat(many, 3), make([]api.Event, 1), make([]api.Event, 5000), append(slices.Clone(many[:4095]), sample.Turn(0, 2))}
	for _, n := range times() {
		lists = append(lists, []api.Event{sample.Turn(0, n)}, []api.Event{sample.Turn(9, n)}, append(sample.FiveEvents(), sample.Tasked(api.TaskRun, 0, n)), []api.Event{sample.Tasked(api.TaskStart, 0, n), sample.Turn(0, 1)})
	}
	for i, l := range lists {
		if got, notes, why := trace.Record(v, l...); !same(got, v) || len(notes) != 0 || why != api.ErrRange {
			t.Errorf("list %d: %d notes, error %d", i, len(notes), why)
		}
	}
	_, notes, why := try(t, v, many[:4096])
	if len(notes) != 4096 || why != api.OK || notes[4095].Err != api.ErrState {
		t.Error(len(notes), why)
	}
	if got, notes, why := trace.Record(v); !same(got, v) || len(notes) != 0 || why != api.OK {
		t.Error("Record of nothing:", notes, why)
	}
}

func TestReplay(t *testing.T) {
	p := sample.Picks(327)
	counts := map[api.Errno]int{}
	for i, v := range vms(328, 150) {
		_, notes, _ := recorded(v, sample.AnyEvents(&p, p.Below(25)))
		l := slices.Clone(notes)
		if len(l) > 0 && i%3 > 0 {
			changeNote(&p, &l[p.Below(len(l))])
		}
		want, n, no := replayed(v, l)
		got, k, why := trace.Replay(v, l...)
		if !same(got, want) || k != n || why != no {
			t.Errorf("machine %d: %d, error %d; want %d, %d", i, k, why, n, no)
		}
		if slices.Equal(l, notes) && why != api.OK {
			t.Errorf("machine %d: error %d", i, why)
		}
		counts[why]++
	}
	for _, why := range []api.Errno{api.OK, api.ErrState, api.ErrRange} {
		if counts[why] < 10 {
			t.Error("error", why, counts[why])
		}
	}
}

// changeNote changes something in a note.
func changeNote(p *sample.Picks, n *api.Note) {
	switch p.Below(6) {
	case 0:
		n.Err += api.Errno(1 - 2*p.Below(2))
	case 1:
		n.Sum ^= 1 << p.Below(64)
	case 2:
		n.Err, n.Sum = api.ErrFull, n.Sum+1
	case 3:
		n.Event = sample.AnyEvent(p)
	case 4:
		n.Event.Thread = !n.Event.Thread
	case 5:
		n.Event.Times = times()[p.Below(len(times()))]
	}
}

// TestReplayEach: wherever a note is another one, the events before it are executed, and no others.
func TestReplayEach(t *testing.T) {
	v := sample.NewVm()
	_, notes, _ := recorded(v, sample.FiveEvents())
	before := v
	for i := range notes {
		for _, change := range []func(n *api.Note){
			func(n *api.Note) { n.Err = api.ErrFull }, func(n *api.Note) { n.Err += 256 }, func(n *api.Note) { n.Err = -1 },
			func(n *api.Note) { n.Sum ^= 1 }, func(n *api.Note) { n.Sum ^= 1 << 63 }, func(n *api.Note) { n.Sum = 0 },
		} {
			l := slices.Clone(notes)
			change(&l[i])
			if got, n, why := trace.Replay(v, l...); !same(got, before) || n != i || why != api.ErrState {
				t.Errorf("note %d: %d, error %d", i, n, why)
			}
		}
		if got, n, why := trace.Replay(v, notes[:i]...); !same(got, before) || n != i || why != api.OK {
			t.Errorf("%d notes: %d, error %d", i, n, why)
		}
		before, _ = happened(before, notes[i].Event)
	}
}

// TestReplayErrors: too many notes, and events that are not to happen once, wherever they are, come before what differs.
func TestReplayErrors(t *testing.T) {
	v := sample.NewVm()
	_, many, _ := recorded(v, slices.Repeat([]api.Event{sample.Tasked(api.TaskSweep, 0, 1)}, 4096))
	if got, n, why := trace.Replay(v, many...); !same(got, v) || n != 4096 || why != api.OK {
		t.Error("Replay of many:", n, why)
	}
	last := slices.Clone(many)
	last[4095].Event.Times = 2
	lists := [][]api.Note{append(many, many[0]), slices.Repeat(many, 2), make([]api.Note, 1), make([]api.Note, 5000), last}
	for _, n := range times() {
		_, notes, _ := recorded(v, sample.FiveEvents())
		for i := range notes {
			l := slices.Clone(notes)
			l[i].Event.Times = n
			wrong := slices.Clone(l)
			wrong[0].Err = api.ErrFull
			lists = append(lists, l, wrong)
		}
	}
	for i, l := range lists {
		if got, n, why := trace.Replay(v, l...); !same(got, v) || n != 0 || why != api.ErrRange {
			t.Errorf("list %d: %d, error %d", i, n, why)
		}
	}
}

// 28.3

func TestEncode(t *testing.T) {
	for i, l := range sample.NoteLists() {
		want, no := encoded(l)
		if got, why := trace.Encode(l); got != want || why != no || why != api.OK || len(got) != 13*len(l) {
			t.Errorf("list %d: %x, error %d; want %x", i, got, why, want)
		}
	}
	for i, l := range sample.BadNoteLists() {
		if _, no := encoded(l); no != api.ErrForm {
			t.Fatal(i, no)
		}
		if got, why := trace.Encode(l); got != "" || why != api.ErrForm {
			t.Errorf("invalid list %d: %x, error %d", i, got, why)
		}
	}
}

// TestEncodeBytes: each byte is where the chapter says.
func TestEncodeBytes(t *testing.T) {
	e := api.Event{Who: 0xa2, Task: api.Task{Kind: 0xb3, Who: 0xc4}, Times: 1}
	l := []api.Note{{Event: e, Err: 0xd5, Sum: 0x0807060504030201}}
	if s, why := trace.Encode(l); s != "\x00\xa2\xb3\xc4\xd5\x01\x02\x03\x04\x05\x06\x07\x08" || why != api.OK {
		t.Errorf("%x, error %d", s, why)
	}
	l[0].Event.Thread = true
	s, why := trace.Encode(append(l, l[0]))
	if one := "\x01\xa2\xb3\xc4\xd5\x01\x02\x03\x04\x05\x06\x07\x08"; s != one+one || why != api.OK {
		t.Errorf("%x, error %d", s, why)
	}
	if got, why := trace.Decode(s); !slices.Equal(got, []api.Note{l[0], l[0]}) || why != api.OK {
		t.Error(got, why)
	}
}

func TestDecode(t *testing.T) {
	p := sample.Picks(329)
	counts := map[api.Errno]int{}
	try := func(s string) {
		t.Helper()
		want, no := decoded(s)
		got, why := trace.Decode(s)
		if !slices.Equal(got, want) || why != no {
			t.Errorf("Decode of %d bytes: %v, error %d; want %v, %d", len(s), got, why, want, no)
		}
		counts[why]++
	}
	for _, l := range sample.NoteLists() {
		s, _ := encoded(l)
		try(s)
		try(s + "\x00")
		try("\x00" + s)
		if len(s) > 0 {
			try(s[1:])
			try(s[:len(s)-1])
			at := p.Below(len(s))
			try(s[:at] + string([]byte{byte(p.Word() >> 30)}) + s[at+1:])
		}
	}
	// Each byte of two notes is any byte: only the first of each note is asked for.
	two, _ := encoded(sample.FiveNotes()[:2])
	for at := range 26 {
		for b := range 256 {
			s := two[:at] + string([]byte{byte(b)}) + two[at+1:]
			try(s)
			if _, why := trace.Decode(s); (why == api.OK) != (at%13 > 0 || b < 2) {
				t.Errorf("byte %d at %d: error %d", b, at, why)
			}
		}
	}
	for n := range 60 {
		try(strings.Repeat("\x01", n))
	}
	for _, n := range []int{13 * 4095, 13*4096 - 1, 13 * 4096, 13*4096 + 1, 13 * 4097, 13 * 8192, 1 << 20} {
		try(strings.Repeat("\x00", n))
		try(strings.Repeat("\x02", n))
	}
	if counts[api.OK] < 1000 || counts[api.ErrForm] < 1000 {
		t.Error(counts)
	}
}

func TestApart(t *testing.T) {
	p := sample.Picks(330)
	counts := map[api.Errno]int{}
	try := func(a, b []api.Note) {
		t.Helper()
		want, no := apart(a, b)
		for range 2 {
			if got, why := trace.Apart(a, b); got != want || why != no {
				t.Errorf("Apart of %d and %d notes: %d, error %d; want %d, %d", len(a), len(b), got, why, want, no)
			}
			a, b = b, a
		}
		counts[no]++
	}
	lists := append(sample.NoteLists(), sample.BadNoteLists()...)
	for i, a := range lists {
		b := slices.Clone(a)
		try(a, b)
		try(a, lists[(i+1)%len(lists)])
		try(a, append(b, sample.SomeNote(&p)))
		try(a, append(b, api.Note{}))
		if len(a) == 0 {
			continue
		}
		try(a, a[:p.Below(len(a))])
		changeNote(&p, &b[p.Below(len(b))])
		try(a, b)
	}
	// Each part of a note counts, wherever it is.
	for i := range 5 {
		for _, change := range []func(n *api.Note){
			func(n *api.Note) { n.Event.Thread = !n.Event.Thread }, func(n *api.Note) { n.Event.Who++ }, func(n *api.Note) { n.Event.Times++ },
			func(n *api.Note) { n.Event.Task.Kind++ }, func(n *api.Note) { n.Event.Task.Who++ }, func(n *api.Note) { n.Err++ }, func(n *api.Note) { n.Sum++ },
		} {
			l := sample.FiveNotes()
			change(&l[i])
			if at, why := trace.Apart(l, sample.FiveNotes()); at != i || why != api.OK {
				t.Errorf("note %d: %d, error %d", i, at, why)
			}
		}
	}
	if counts[api.OK] < 500 || counts[api.ErrNone] < 300 {
		t.Error(counts)
	}
}

// TestChapter: the chapter's own examples, one after the other.
func TestChapter(t *testing.T) {
	code, _, _ := asm.Parse("new r0 1 0\nhalt\n")
	v, why := vm.Make(4, 2, code)
	if !same(v, sample.NewVm()) || why != api.OK {
		t.Fatal(v, why)
	}
	got, notes, why := try(t, v, sample.FiveEvents())
	sum, no := trace.Sum(got)
	if len(notes) != 5 || why != api.OK || notes[2].Err != api.ErrNone || notes[2].Sum != notes[1].Sum || notes[4].Err != api.ErrState || notes[4].Sum != sum || no != api.OK {
		t.Error("Record:", notes, why, sum, no)
	}
	for _, i := range []int{0, 1, 3} {
		if notes[i].Err != api.OK {
			t.Error("Record:", i, notes[i])
		}
	}
	if same, none, why := trace.Record(v, sample.Turn(0, 2)); len(none) != 0 || why != api.ErrRange || !sample.SameVms(same, v) {
		t.Error("Record:", none, why)
	}
	if again, n, why := trace.Replay(v, notes...); !same(again, got) || n != 5 || why != api.OK {
		t.Error("Replay:", n, why)
	}
	other := slices.Clone(notes)
	other[3].Err = api.ErrFull
	if _, n, why := trace.Replay(v, other...); n != 3 || why != api.ErrState {
		t.Error("Replay:", n, why)
	}
	s, why := trace.Encode(notes)
	if len(s) != 65 || why != api.OK {
		t.Error("Encode:", len(s), why)
	}
	far := slices.Clone(notes)
	far[1].Event.Who = 256
	if s, why := trace.Encode(far); s != "" || why != api.ErrForm {
		t.Error("Encode:", s, why)
	}
	for _, s := range []string{"x", s[:64], "\x02" + s[1:]} {
		if l, why := trace.Decode(s); len(l) != 0 || why != api.ErrForm {
			t.Error("Decode:", l, why)
		}
	}
	if l, why := trace.Decode(s); !slices.Equal(l, notes) || why != api.OK {
		t.Error("Decode:", l, why)
	}
	for i, x := range []struct {
		l    []api.Note
		want int
		no   api.Errno
	}{{other, 3, api.OK}, {notes[:4], 4, api.OK}, {notes, 0, api.ErrNone}} {
		if at, why := trace.Apart(notes, x.l); at != x.want || why != x.no {
			t.Error("Apart:", i, at, why)
		}
	}
	if s, why := trace.Encode(nil); s != "" || why != api.OK {
		t.Error("Encode of nothing:", s, why)
	}
}
