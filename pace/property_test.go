package pace_test

import (
	"testing"

	"besom/api"
	"besom/pace"
	"besom/sample"
)

// step lets something happen to a pacer, and returns what it is then, and the error.
func step(p *sample.Picks, a api.Pacer) (api.Pacer, api.Errno) {
	var out api.Pacer
	why := api.OK
	who := p.Below(len(a.Debts)+2) - 1
	n := sample.SomeNumber(p)
	if p.Below(20) == 0 {
		n = p.Word()
	}
	switch p.Below(12) {
	case 0, 1:
		out, why = pace.Begin(a, n)
	case 2:
		out, why = pace.End(a, n)
	case 3, 4, 5, 6:
		out, why = pace.Work(a, who, n, sample.SomeNumber(p))
	default:
		out, _, why = pace.Alloc(a, who, n>>20)
	}
	return out, why
}

// TestRight: every function answers a valid pacer if it was given one, whatever came before, and with an error what it was given.
func TestRight(t *testing.T) {
	p := sample.Picks(181)
	fine := 0
	for i, a := range pacers(300) {
		for range 60 {
			got, why := step(&p, a)
			if pace.Check(got) != api.OK || !valid(got) {
				t.Fatalf("pacer %d: %v becomes %v", i, a, got)
			}
			if why != api.OK && !same(got, a) {
				t.Fatalf("pacer %d: %v becomes %v, with error %d", i, a, got, why)
			}
			if why == api.OK {
				fine++
			}
			a = got
		}
	}
	if fine < 8000 {
		t.Error(fine)
	}
}

// 21.6

// payday is a collection in which every mutator pays what it owes after each allocation: steps are those that were executed, words those that were allocated.
type payday struct {
	*testing.T
	p            api.Pacer
	picks        *sample.Picks
	steps, words uint64
}

// begin begins a collection that the mutators are to pay for within some hundred allocations.
func begin(t *testing.T, picks *sample.Picks, mutators int) *payday {
	t.Helper()
	size := func() uint64 { return picks.Word() >> 20 % (1 << picks.Below(25)) }
	a, why := pace.Make(1+picks.Below(400), 1+size(), mutators)
	if why != api.OK {
		t.Fatal(why)
	}
	a.Live = size()
	_, heap, _ := pace.Goal(a)
	if picks.Below(3) == 0 {
		heap = size() + size()
	}
	a, why = pace.Begin(a, heap)
	if why != api.OK {
		t.Fatal(why)
	}
	return &payday{T: t, p: a, picks: picks}
}

// work lets steps be executed.
func (d *payday) work(who int, steps ...uint64) {
	d.Helper()
	out, why := pace.Work(d.p, who, steps...)
	if why != api.OK {
		d.Fatal(why)
	}
	d.p = out
	for _, n := range steps {
		d.steps += n
	}
}

// alloc lets a mutator allocate words, and pay: in one part or in two, and now and then more than it owes.
func (d *payday) alloc(who int, words uint64) {
	d.Helper()
	out, owed, why := pace.Alloc(d.p, who, words)
	if why != api.OK {
		d.Fatal(why)
	}
	d.p = out
	d.words += words
	switch d.picks.Below(4) {
	case 0:
		d.work(who, owed/2, owed-owed/2)
	case 1:
		d.work(who, owed+uint64(d.picks.Below(9)))
	default:
		d.work(who, owed)
	}
	if d.p.Debts[who] > 0 {
		d.Fatalf("%v: mutator %d paid, and owes", d.p, who)
	}
}

// TestPaid: at each time at least such a part of the steps was executed as of the room was allocated, so that all of them are when there is no room any more.
func TestPaid(t *testing.T) {
	picks := sample.Picks(182)
	allocs, late := 0, 0
	for i := range 600 {
		d := begin(t, &picks, 1+i%4)
		for d.words < d.p.Room {
			if picks.Below(5) == 0 {
				d.work(-1, uint64(picks.Below(int(d.p.Est))/50))
			}
			d.alloc(picks.Below(len(d.p.Debts)), 1+picks.Word()>>20%(1+min(d.p.Room/40, 1<<20-1)))
			allocs++
			if part, rest := part(d.words, d.p.Est, d.p.Room); part.Cmp(number(d.steps)) > 0 || rest && part.Cmp(number(d.steps)) == 0 {
				t.Fatalf("collection %d: %v after %d steps for %d words", i, d.p, d.steps, d.words)
			}
		}
		if d.steps < d.p.Est || d.p.Done != d.steps || d.p.Made != d.words {
			t.Errorf("collection %d: %v after %d steps for %d words", i, d.p, d.steps, d.words)
		}
		if d.p.Credit == 0 {
			late++
		}
	}
	if allocs < 10000 || late < 20 {
		t.Error(allocs, late)
	}
}

// TestNotMore: where nobody works in advance, mutators owe no more than their part of the steps, and less than one step for each allocation.
func TestNotMore(t *testing.T) {
	picks := sample.Picks(183)
	for i := range 300 {
		d := begin(t, &picks, 1+i%4)
		for n := uint64(1); d.words < d.p.Room; n++ {
			words := 1 + picks.Word()>>20%(1+min(d.p.Room/40, 1<<20-1))
			who := picks.Below(len(d.p.Debts))
			out, owed, why := pace.Alloc(d.p, who, words)
			if why != api.OK {
				t.Fatal(why)
			}
			d.p = out
			d.words += words
			d.work(who, owed)
			if part, _ := part(d.words, d.p.Est, d.p.Room); part.Cmp(number(d.steps-min(d.steps, n))) < 0 || d.p.Credit > 0 {
				t.Fatalf("collection %d: %v after %d steps for %d words", i, d.p, d.steps, d.words)
			}
		}
	}
}

// TestDebtsGrow: who does not pay owes more and more, and nobody else pays for that, but what was executed in advance.
func TestDebtsGrow(t *testing.T) {
	p := sample.Pacing(sample.Idle(50, 100, 400, 3), 400, 40, 0, 0, 0, 0, 0, 0)
	for i, want := range []uint64{10, 20, 30} {
		var owed uint64
		if p, owed, _ = pace.Alloc(p, 1, 1); owed != want {
			t.Error(i, owed)
		}
	}
	p, _ = pace.Work(p, 0, 12)
	p, _ = pace.Work(p, 2, 4)
	if want := sample.Pacing(p, 400, 40, 16, 16, 3, 0, 30, 0); !same(p, want) {
		t.Error(p)
	}
	p, owed, _ := pace.Alloc(p, 1, 0)
	if want := sample.Pacing(p, 400, 40, 0, 16, 3, 0, 14, 0); !same(p, want) || owed != 14 {
		t.Error(p, owed)
	}
}

// 21.7

// TestInOrder: the trigger is never greater than the goal, and never less than what was live.
func TestInOrder(t *testing.T) {
	equal := 0
	for i, p := range pacers(5000) {
		goal, trigger, why := pace.Goal(p)
		if trigger > goal || trigger < p.Live || goal < p.Least || goal > most || why != api.OK {
			t.Errorf("pacer %d, %v: %d, %d, error %d", i, p, goal, trigger, why)
		}
		if trigger == goal {
			equal++
		}
	}
	if equal < 20 || equal > 4000 {
		t.Error(equal)
	}
}
