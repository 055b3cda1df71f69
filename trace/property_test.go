package trace_test

import (
	"slices"
	"testing"

	"besom/api"
	"besom/sample"
	"besom/trace"
	"besom/vm"
)

// encodable returns events whose numbers are small, so that their notes may be encoded.
func encodable(p *sample.Picks, count int) []api.Event {
	return slices.DeleteFunc(sample.AnyEvents(p, count), func(e api.Event) bool {
		return e.Who < 0 || e.Who > 255 || e.Task.Who < 0 || e.Task.Who > 255
	})
}

// 28.5

// TestAgain: what was recorded can be replayed completely, and results in the same machine, though what it was before was written and read meanwhile.
func TestAgain(t *testing.T) {
	p := sample.Picks(331)
	many, ran := 0, 0
	for i, v := range vms(332, 120) {
		end, notes, why := trace.Record(v, encodable(&p, 1+p.Below(80))...)
		if why != api.OK {
			t.Fatal(why)
		}
		s, why := trace.Encode(notes)
		if slices.ContainsFunc(notes, func(n api.Note) bool { return n.Err < 0 || n.Err > 255 }) || why != api.OK {
			t.Fatal(i, why)
		}
		read, no := trace.Decode(s)
		again, n, why := trace.Replay(v, read...)
		if !same(again, end) || n != len(notes) || why != api.OK || no != api.OK {
			t.Errorf("machine %d: %d of %d, error %d, %d", i, n, len(notes), why, no)
		}
		many += n
		ran += len(end.Ran)
	}
	if many < 3000 || ran < 100 {
		t.Error(many, ran)
	}
}

// TestParts: what is recorded in two parts is what is recorded in one.
func TestParts(t *testing.T) {
	p := sample.Picks(333)
	for i, v := range vms(334, 60) {
		l := sample.AnyEvents(&p, 30)
		at := p.Below(31)
		want, all, _ := trace.Record(v, l...)
		half, first, _ := trace.Record(v, l[:at]...)
		got, second, why := trace.Record(half, l[at:]...)
		if !same(got, want) || !slices.Equal(all, slices.Concat(first, second)) || why != api.OK {
			t.Errorf("machine %d: error %d", i, why)
		}
	}
}

// TestPlayed: the machine that Record answers is that of vm.Play, and each note has the checksum of the machine then.
func TestPlayed(t *testing.T) {
	p := sample.Picks(335)
	for i, v := range vms(336, 60) {
		l := sample.AnyEvents(&p, 20)
		got, notes, why := trace.Record(v, l...)
		want, n, no := vm.Play(v, l...)
		if !same(got, want) || why != api.OK || no != api.OK {
			t.Errorf("machine %d: error %d, %d", i, why, no)
		}
		done := 0
		for k := range notes {
			then, _, _ := vm.Play(v, l[:k+1]...)
			if sum, why := trace.Sum(then); notes[k].Sum != sum || why != api.OK {
				t.Errorf("machine %d, note %d: %v; want %d", i, k, notes[k], sum)
			}
			if notes[k].Err == api.OK {
				done++
			}
		}
		if done != n {
			t.Errorf("machine %d: %d, and %d", i, done, n)
		}
	}
}

// 28.6

// TestThereAndBack: Decode of Encode returns the notes, and Encode of Decode the bytes.
func TestThereAndBack(t *testing.T) {
	p := sample.Picks(337)
	for i, l := range sample.NoteLists() {
		s, why := trace.Encode(l)
		got, no := trace.Decode(s)
		if !slices.Equal(got, l) || why != api.OK || no != api.OK {
			t.Errorf("list %d: error %d, %d", i, why, no)
		}
		if at, why := trace.Apart(got, l); at != 0 || why != api.ErrNone {
			t.Errorf("list %d: apart at %d, error %d", i, at, why)
		}
	}
	for range 300 {
		b := make([]byte, 13*p.Below(30))
		for i := range b {
			b[i] = byte(p.Word() >> 30)
			if i%13 == 0 {
				b[i] %= 2
			}
		}
		l, why := trace.Decode(string(b))
		s, no := trace.Encode(l)
		if s != string(b) || why != api.OK || no != api.OK {
			t.Errorf("%x: %x, error %d, %d", b, s, why, no)
		}
	}
}
