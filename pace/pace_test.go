package pace_test

import (
	"math"
	"slices"
	"testing"

	"besom/api"
	"besom/pace"
	"besom/sample"
)

// TestInvalidComesFirst: what is not valid comes before all other errors, and there is no result.
func TestInvalidComesFirst(t *testing.T) {
	for i, p := range sample.BadPacers() {
		for _, n := range []uint64{0, 1, 560, 1 << 20, 1<<20 + 1, most, most + 1, math.MaxUint64} {
			if due, why := pace.Due(p, n); due || why != api.ErrForm {
				t.Errorf("Due of invalid pacer %d: %v, error %d", i, due, why)
			}
			if got, why := pace.Begin(p, n); !same(got, api.Pacer{}) || why != api.ErrForm {
				t.Errorf("Begin of invalid pacer %d: %v, error %d", i, got, why)
			}
			if got, why := pace.End(p, n); !same(got, api.Pacer{}) || why != api.ErrForm {
				t.Errorf("End of invalid pacer %d: %v, error %d", i, got, why)
			}
			for _, who := range []int{-2, -1, 0, 1, 4, math.MinInt, math.MaxInt} {
				if got, owed, why := pace.Alloc(p, who, n); !same(got, api.Pacer{}) || owed != 0 || why != api.ErrForm {
					t.Errorf("Alloc of invalid pacer %d: %v, %d, error %d", i, got, owed, why)
				}
				if got, why := pace.Work(p, who, n, n); !same(got, api.Pacer{}) || why != api.ErrForm {
					t.Errorf("Work of invalid pacer %d: %v, error %d", i, got, why)
				}
			}
		}
		if goal, trigger, why := pace.Goal(p); goal != 0 || trigger != 0 || why != api.ErrForm {
			t.Errorf("Goal of invalid pacer %d: %d, %d, error %d", i, goal, trigger, why)
		}
	}
}

// 21.1

func TestCheck(t *testing.T) {
	for i, p := range pacers(300) {
		if why := pace.Check(p); why != api.OK || !valid(p) {
			t.Errorf("Check of pacer %d: error %d", i, why)
		}
	}
	for i, p := range sample.BadPacers() {
		if why := pace.Check(p); why != api.ErrForm || valid(p) {
			t.Errorf("Check of invalid pacer %d: error %d", i, why)
		}
	}
}

// changes are all that may be changed of one field of a pacer.
func changes() []func(p *api.Pacer) {
	out := []func(p *api.Pacer){
		func(p *api.Pacer) { p.On = !p.On },
		func(p *api.Pacer) { p.Debts = nil },
		func(p *api.Pacer) { p.Debts = append(p.Debts, 0) },
		func(p *api.Pacer) { p.Debts = append(p.Debts, 1) },
		func(p *api.Pacer) { clear(p.Debts) },
	}
	for _, n := range []int{math.MinInt, -1, 0, 1, 2, 99, 100, 9999, 10000, 10001, 1<<32 + 1, math.MaxInt} {
		out = append(out, func(p *api.Pacer) { p.Percent = n })
	}
	for _, n := range []uint64{0, 1, 2, 1 << 20, 1<<20 + 1, most - 1, most, most + 1, 1 << 41, 1<<63 - 1, 1 << 63, 1<<63 + 1, math.MaxUint64} {
		out = append(out,
			func(p *api.Pacer) { p.Least = n }, func(p *api.Pacer) { p.Live = n }, func(p *api.Pacer) { p.Est = n }, func(p *api.Pacer) { p.Room = n },
			func(p *api.Pacer) { p.Credit = n }, func(p *api.Pacer) { p.Done = n }, func(p *api.Pacer) { p.Made = n },
			func(p *api.Pacer) { p.Debts[0] = n }, func(p *api.Pacer) { p.Debts[len(p.Debts)-1] = n })
	}
	return out
}

// TestCheckFields: whatever one field is replaced by, Check answers what the chapter's words say.
func TestCheckFields(t *testing.T) {
	counts := map[bool]int{}
	for i, start := range pacers(50) {
		for k, change := range changes() {
			p := sample.CopyPacer(start)
			change(&p)
			ok := valid(p)
			counts[ok]++
			if why := pace.Check(p); why != api.OK && why != api.ErrForm || (why == api.OK) != ok {
				t.Errorf("Check of pacer %d with change %d, %v: error %d", i, k, p, why)
			}
		}
	}
	if counts[true] < 1000 || counts[false] < 1000 {
		t.Error("too few of a kind:", counts)
	}
}

func TestMake(t *testing.T) {
	percents := append(sample.Ints(), 0, 1, 2, 50, 100, 9999, 10000, 10001, 1<<32+50)
	leasts := []uint64{0, 1, 100, most - 1, most, most + 1, 1 << 63, math.MaxUint64}
	for _, percent := range percents {
		for _, least := range leasts {
			for _, n := range mutators() {
				got, why := pace.Make(percent, least, n)
				if percent < 1 || percent > 10000 || least < 1 || least > most || n < 1 || n > 4 {
					if !same(got, api.Pacer{}) || why != api.ErrRange {
						t.Errorf("Make of %d, %d, %d: %v, error %d", percent, least, n, got, why)
					}
					continue
				}
				want := api.Pacer{Percent: percent, Least: least, Debts: make([]uint64, n)}
				if !same(got, want) || why != api.OK {
					t.Errorf("Make of %d, %d, %d: %v, error %d", percent, least, n, got, why)
				}
			}
		}
	}
}

func TestGoal(t *testing.T) {
	for i, p := range pacers(2000) {
		goal, trigger := aims(p)
		if g, d, why := pace.Goal(p); g != goal || d != trigger || why != api.OK {
			t.Errorf("Goal of pacer %d: %d, %d, error %d; want %d, %d", i, g, d, why, goal, trigger)
		}
	}
}

// TestGoalEdges: the goal is rounded down, and is from Least to the greatest size of a heap; the trigger is rounded down.
func TestGoalEdges(t *testing.T) {
	for _, x := range []struct {
		percent             int
		least, live         uint64
		goal, trigger, room uint64
	}{
		{50, 100, 0, 100, 70, 100}, {50, 100, 400, 600, 540, 200}, {100, 1, 1000, 2000, 1700, 1000},
		{1, 1, 0, 1, 0, 1}, {1, 1, 1, 1, 1, 0}, {1, 1, 99, 99, 99, 0}, {1, 1, 100, 101, 100, 1}, {3, 1, 33, 33, 33, 0}, {3, 1, 34, 35, 34, 1},
		{150, 1, 1, 2, 1, 1}, {100, 1, 2, 4, 3, 2}, {100, 1, 3, 6, 5, 3}, {50, 100, 66, 100, 89, 34}, {50, 100, 67, 100, 90, 33}, {50, 100, 68, 102, 91, 34},
		{100, 20, 0, 20, 14, 20}, {1, 10, 9, 10, 9, 1},
		{100, 1, most / 2, most, 934584883609, most / 2}, {100, 1, most/2 + 1, most, 934584883609, most/2 - 1}, {10000, 1, most, most, most, 0}, {10000, most, 0, most, 769658139443, most},
		{1, 1, most, most, most, 0}, {1, 1, most - 1, most, most - 1, 1}, {10000, 1, 10886253740, 1099511627740, 772924015540, 1088625374000}, {10000, 1, 10886253741, most, 772924015565, 1088625374035},
	} {
		p := sample.Idle(x.percent, x.least, x.live, 1)
		goal, trigger, why := pace.Goal(p)
		if goal != x.goal || trigger != x.trigger || goal-x.live != x.room || why != api.OK {
			t.Errorf("Goal of %d%%, %d, %d: %d, %d, error %d", x.percent, x.least, x.live, goal, trigger, why)
		}
	}
}

func TestDue(t *testing.T) {
	counts := map[bool]int{}
	for i, p := range pacers(300) {
		_, trigger := aims(p)
		for _, n := range numbers(p) {
			want := !p.On && n >= trigger
			counts[want]++
			if due, why := pace.Due(p, n); due != want || why != api.OK {
				t.Errorf("Due of pacer %d, %d: %v, error %d", i, n, due, why)
			}
		}
	}
	if counts[true] < 500 || counts[false] < 500 {
		t.Error(counts)
	}
}

// 21.2

func TestBegin(t *testing.T) {
	counts := map[api.Errno]int{}
	for i, p := range pacers(500) {
		for _, n := range numbers(p) {
			want, no := begun(p, n)
			if got, why := pace.Begin(p, n); !same(got, want) || why != no {
				t.Errorf("Begin of pacer %d, %d: %v, error %d; want %v, %d", i, n, got, why, want, no)
			}
			counts[no]++
		}
	}
	for _, why := range []api.Errno{api.OK, api.ErrState, api.ErrRange} {
		if counts[why] < 500 {
			t.Error(counts)
		}
	}
}

// TestBeginRoom: the room is what the goal leaves, or a twentieth of the goal, and never nothing.
func TestBeginRoom(t *testing.T) {
	p := sample.Idle(50, 100, 400, 3)
	for _, x := range [][2]uint64{{0, 600}, {1, 599}, {560, 40}, {569, 31}, {570, 30}, {571, 30}, {599, 30}, {600, 30}, {601, 30}, {700, 30}, {most, 30}} {
		want := sample.Pacing(p, 400, x[1], 0, 0, 0, 0, 0, 0)
		if got, why := pace.Begin(p, x[0]); !same(got, want) || why != api.OK {
			t.Errorf("Begin with %d: %v, error %d", x[0], got, why)
		}
	}
	for _, x := range []struct{ least, heap, room uint64 }{{1, 0, 1}, {1, 1, 1}, {19, 18, 1}, {19, 19, 1}, {20, 19, 1}, {39, 39, 1}, {40, 40, 2}, {40, 37, 3}, {most, most, most / 20}, {most, 0, most}} {
		p := sample.Idle(1, x.least, 0, 1)
		want := sample.Pacing(p, 1, x.room, 0, 0, 0, 0)
		if got, why := pace.Begin(p, x.heap); !same(got, want) || why != api.OK {
			t.Errorf("Begin of %d with %d: %v, error %d", x.least, x.heap, got, why)
		}
	}
}

func TestEnd(t *testing.T) {
	counts := map[api.Errno]int{}
	for i, p := range pacers(500) {
		for _, n := range numbers(p) {
			want, no := ended(p, n)
			if got, why := pace.End(p, n); !same(got, want) || why != no {
				t.Errorf("End of pacer %d, %d: %v, error %d; want %v, %d", i, n, got, why, want, no)
			}
			counts[no]++
		}
	}
	for _, why := range []api.Errno{api.OK, api.ErrState, api.ErrRange} {
		if counts[why] < 500 {
			t.Error(counts)
		}
	}
}

// 21.3

func TestAlloc(t *testing.T) {
	counts := map[api.Errno]int{}
	off, free, paid := 0, 0, 0
	for i, p := range pacers(300) {
		for _, who := range mutators() {
			for _, n := range numbers(p) {
				want, owes, no := allocated(p, who, n)
				got, owed, why := pace.Alloc(p, who, n)
				if !same(got, want) || owed != owes || why != no {
					t.Errorf("Alloc of pacer %d, %d, %d: %v, %d, error %d; want %v, %d, %d", i, who, n, got, owed, why, want, owes, no)
				}
				counts[no]++
				switch {
				case no != api.OK:
				case !p.On:
					off++
				case owes == 0:
					free++
				case got.Credit < p.Credit:
					paid++
				}
			}
		}
	}
	if counts[api.OK] < 2000 || counts[api.ErrTask] < 2000 || counts[api.ErrRange] < 2000 || off < 500 || free < 500 || paid < 500 {
		t.Error(counts, off, free, paid)
	}
}

// TestAllocErrors: the mutator comes before the words, and both come first whether or not a collection is in progress.
func TestAllocErrors(t *testing.T) {
	idle := sample.Idle(50, 100, 400, 2)
	on := sample.Pacing(idle, 400, 40, 11, 42, 4, 3, 0)
	for _, p := range []api.Pacer{idle, on} {
		for _, x := range []struct {
			who   int
			words uint64
			want  api.Errno
		}{
			{2, 1<<20 + 1, api.ErrTask}, {-1, 1, api.ErrTask}, {-1, math.MaxUint64, api.ErrTask}, {math.MinInt, 0, api.ErrTask}, {math.MaxInt, 0, api.ErrTask}, {1 << 32, 0, api.ErrTask},
			{0, 1<<20 + 1, api.ErrRange}, {1, math.MaxUint64, api.ErrRange}, {1, 1 << 63, api.ErrRange}, {0, most, api.ErrRange},
		} {
			if got, owed, why := pace.Alloc(p, x.who, x.words); !same(got, p) || owed != 0 || why != x.want {
				t.Errorf("Alloc of %d, %d: %v, %d, error %d", x.who, x.words, got, owed, why)
			}
		}
	}
	if got, owed, why := pace.Alloc(idle, 1, 1<<20); !same(got, idle) || owed != 0 || why != api.OK {
		t.Errorf("Alloc when it is not On: %v, %d, error %d", got, owed, why)
	}
}

// TestAllocCaps: the words and the debts never exceed the greatest number, and the debt is rounded up before it is paid.
func TestAllocCaps(t *testing.T) {
	p := sample.Idle(50, 100, 400, 2)
	for _, x := range []struct {
		est, room, credit, made, debt, words uint64
		owed, creditThen, madeThen           uint64
	}{
		{400, 40, 0, 0, 0, 3, 30, 0, 3}, {400, 40, 0, 7, 5, 0, 5, 0, 7}, {400, 40, 3, 7, 5, 0, 2, 0, 7}, {400, 40, 5, 7, 5, 0, 0, 0, 7},
		{10, 3, 0, 0, 0, 1, 4, 0, 1}, {10, 3, 4, 0, 0, 1, 0, 0, 1}, {9, 3, 4, 0, 0, 1, 0, 1, 1}, {1, most, 0, 0, 0, 1, 1, 0, 1}, {1, most, 0, 0, 0, 0, 0, 0, 0},
		{most, 1, 0, most, 0, 1 << 20, most, 0, most}, {most, 1, most, most - 1, most, 1 << 20, 0, 0, most}, {most, 1, most - 1, most - 1, most, 1, 1, 0, most},
		{most, most, 0, 5, most - 2, 1, most - 1, 0, 6}, {most, most, 0, 5, most - 2, 3, most, 0, 8}, {most - 1, most, 0, 0, 0, 1 << 20, 1 << 20, 0, 1 << 20},
	} {
		start := sample.Pacing(p, x.est, x.room, x.credit, 77, x.made, 9, x.debt)
		want := sample.Pacing(p, x.est, x.room, x.creditThen, 77, x.madeThen, 9, x.owed)
		if got, owed, why := pace.Alloc(start, 1, x.words); !same(got, want) || owed != x.owed || why != api.OK {
			t.Errorf("Alloc of %v: %v, %d, error %d; want %v", start, got, owed, why, want)
		}
	}
}

// 21.4

func TestWork(t *testing.T) {
	counts := map[api.Errno]int{}
	for i, p := range pacers(300) {
		for _, who := range mutators() {
			for _, l := range lists(p) {
				want, no := worked(p, who, l...)
				if got, why := pace.Work(p, who, l...); !same(got, want) || why != no {
					t.Errorf("Work of pacer %d, %d, %d: %v, error %d; want %v, %d", i, who, l, got, why, want, no)
				}
				counts[no]++
			}
		}
	}
	for _, why := range []api.Errno{api.OK, api.ErrTask, api.ErrState, api.ErrRange} {
		if counts[why] < 1000 {
			t.Error(counts)
		}
	}
}

// TestWorkErrors: the mutator comes first, then whether a collection is in progress, then the numbers, of which none is recorded then.
func TestWorkErrors(t *testing.T) {
	idle := sample.Idle(50, 100, 400, 2)
	on := sample.Pacing(idle, 400, 40, 11, 42, 4, 3, 0)
	for _, x := range []struct {
		p     api.Pacer
		who   int
		steps []uint64
		want  api.Errno
	}{
		{idle, 2, []uint64{most + 1}, api.ErrTask}, {idle, -2, nil, api.ErrTask}, {idle, -1, []uint64{most + 1}, api.ErrState}, {idle, 0, nil, api.ErrState}, {idle, 1, []uint64{0}, api.ErrState},
		{on, 2, []uint64{most + 1}, api.ErrTask}, {on, -2, []uint64{1}, api.ErrTask}, {on, math.MinInt, nil, api.ErrTask}, {on, math.MaxInt, nil, api.ErrTask}, {on, 1<<32 - 1, nil, api.ErrTask},
		{on, -1, []uint64{1, 2, most + 1}, api.ErrRange}, {on, 0, []uint64{most + 1, 1}, api.ErrRange}, {on, 1, []uint64{1, math.MaxUint64}, api.ErrRange}, {on, 0, []uint64{1 << 63}, api.ErrRange},
		{on, -1, nil, api.OK}, {on, 0, []uint64{0, 0}, api.OK},
	} {
		if got, why := pace.Work(x.p, x.who, x.steps...); !same(got, x.p) || why != x.want {
			t.Errorf("Work of %d, %d: %v, error %d; want %d", x.who, x.steps, got, why, x.want)
		}
	}
}

// TestWorkCaps: the steps, and the credit, never exceed the greatest number, and a debt is paid first.
func TestWorkCaps(t *testing.T) {
	p := sample.Idle(50, 100, 400, 2)
	for _, x := range []struct {
		who              int
		credit, done     uint64
		debts            [2]uint64
		steps            []uint64
		creditThen, then uint64
		debtsThen        [2]uint64
	}{
		{-1, 0, 0, [2]uint64{30, 7}, []uint64{5, 6}, 11, 11, [2]uint64{30, 7}},
		{0, 1, 11, [2]uint64{30, 7}, []uint64{31}, 2, 42, [2]uint64{0, 7}},
		{1, 1, 11, [2]uint64{30, 7}, []uint64{3, 3}, 1, 17, [2]uint64{30, 1}},
		{1, 1, 11, [2]uint64{30, 7}, []uint64{3, 0, 5, 6}, 8, 25, [2]uint64{30, 0}},
		{-1, most - 1, 5, [2]uint64{30, 7}, []uint64{2, 9}, most, 16, [2]uint64{30, 7}},
		{0, most - 1, most - 1, [2]uint64{30, 7}, []uint64{31, 1}, most, most, [2]uint64{0, 7}},
		{0, most, most, [2]uint64{most, 7}, []uint64{most - 1}, most, most, [2]uint64{1, 7}},
		{0, 0, 0, [2]uint64{most, most}, []uint64{most, most, most}, most, most, [2]uint64{0, most}},
		{1, 0, most - 3, [2]uint64{30, 7}, []uint64{1, 1, 1, 1, 1}, 0, most, [2]uint64{30, 2}},
	} {
		start := sample.Pacing(p, 400, 40, x.credit, x.done, 3, x.debts[:]...)
		want := sample.Pacing(p, 400, 40, x.creditThen, x.then, 3, x.debtsThen[:]...)
		if got, why := pace.Work(start, x.who, x.steps...); !same(got, want) || why != api.OK {
			t.Errorf("Work of %v, %d, %d: %v, error %d; want %v", start, x.who, x.steps, got, why, want)
		}
	}
}

// TestChapter: the chapter's own examples, one after the other.
func TestChapter(t *testing.T) {
	p, why := pace.Make(50, 100, 2)
	if goal, trigger, no := pace.Goal(p); goal != 100 || trigger != 70 || why != api.OK || no != api.OK {
		t.Error("Goal:", goal, trigger, why, no)
	}
	p, _ = pace.Begin(p, 70)
	if p, why = pace.End(p, 400); p.Live != 400 || why != api.OK {
		t.Fatal("End:", p, why)
	}
	if goal, trigger, why := pace.Goal(p); goal != 600 || trigger != 540 || why != api.OK {
		t.Error("Goal:", goal, trigger, why)
	}
	for heap, want := range map[uint64]bool{539: false, 540: true} {
		if due, why := pace.Due(p, heap); due != want || why != api.OK {
			t.Error("Due:", heap, due, why)
		}
	}
	if late, why := pace.Begin(p, 700); late.Room != 30 || why != api.OK {
		t.Error("Begin with 700:", late, why)
	}
	if p, why = pace.Begin(p, 560); p.Est != 400 || p.Room != 40 || !p.On || why != api.OK {
		t.Error("Begin with 560:", p, why)
	}
	p, owed, why := pace.Alloc(p, 0, 3)
	if owed != 30 || why != api.OK {
		t.Error("Alloc of 3:", owed, why)
	}
	if p, why = pace.Work(p, -1, 5, 6); p.Credit != 11 || why != api.OK {
		t.Error("Work by nobody:", p, why)
	}
	if p, owed, why = pace.Alloc(p, 1, 1); owed != 0 || p.Credit != 1 || why != api.OK {
		t.Error("Alloc of 1:", p, owed, why)
	}
	if p, why = pace.Work(p, 0, 31); p.Credit != 2 || p.Done != 42 || !slices.Equal(p.Debts, []uint64{0, 0}) || why != api.OK {
		t.Error("Work by 0:", p, why)
	}
}

// TestExample: the example of the whole chapter.
func TestExample(t *testing.T) {
	p := sample.Idle(100, 1, 1000, 1)
	if goal, trigger, why := pace.Goal(p); goal != 2000 || trigger != 1700 || why != api.OK {
		t.Error("Goal:", goal, trigger, why)
	}
	p, _ = pace.Begin(p, 1700)
	if _, owed, why := pace.Alloc(p, 0, 3); owed != 10 || why != api.OK {
		t.Error("Alloc:", owed, why)
	}
}
