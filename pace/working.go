package pace

import (
	"slices"

	"besom/api"
)

// working is a valid pacer at work. Its numbers are small enough that no product and no sum of them wraps round.
type working struct {
	api.Pacer
}

// view returns a valid pacer. It shares the memory of p.
func view(p api.Pacer) (working, api.Errno) {
	w := working{p}
	if !w.limited() || !w.phased() {
		return working{}, api.ErrForm
	}
	return w, api.OK
}

// limited reports whether each number is from its least value to its limit.
func (w working) limited() bool {
	if w.Percent < 1 || w.Percent > api.MaxPercent || w.Least < 1 {
		return false
	}
	if len(w.Debts) < 1 || len(w.Debts) > api.MaxMutators {
		return false
	}
	return !exceeds(w.Least, w.Live, w.Est, w.Room, w.Credit, w.Done, w.Made) && !exceeds(w.Debts...)
}

// phased reports whether the numbers of a collection are those of one that is in progress, or of none.
func (w working) phased() bool {
	if w.On {
		return w.Est >= 1 && w.Room >= 1
	}
	return w.Est|w.Room|w.Credit|w.Done|w.Made == 0 && !slices.ContainsFunc(w.Debts, func(debt uint64) bool {
		return debt != 0
	})
}

// exceeds reports whether one of the numbers is greater than may be.
func exceeds(numbers ...uint64) bool {
	return slices.ContainsFunc(numbers, func(n uint64) bool {
		return n > api.MaxHeap
	})
}

// twin returns a copy with memory of its own.
func (w working) twin() working {
	w.Debts = slices.Clone(w.Debts)
	return w
}

func (w working) has(who int) bool {
	return who >= 0 && who < len(w.Debts)
}

func (w working) goal() uint64 {
	return min(max(w.Live+w.Live*uint64(w.Percent)/100, w.Least), api.MaxHeap)
}

func (w working) trigger() uint64 {
	return w.Live + (w.goal()-w.Live)*7/10
}

func (w *working) begin(heap uint64) {
	goal := w.goal()
	w.On, w.Est = true, max(w.Live, 1)
	// A collection that begins late has some room, too.
	w.Room = max(goal-min(heap, goal), goal/20, 1)
}

// alloc records that a mutator allocates words, and returns how many steps it owes.
func (w *working) alloc(who int, words uint64) uint64 {
	w.Made = capped(w.Made + words)
	debt := &w.Debts[who]
	// Rounded up, so that the steps are paid for by the time that there is no room any more.
	*debt = capped(*debt + (words*w.Est+w.Room-1)/w.Room)
	paid := min(*debt, w.Credit)
	*debt -= paid
	w.Credit -= paid
	return *debt
}

// work records that steps were executed by a mutator, or by nobody.
func (w *working) work(who int, steps ...uint64) {
	for _, n := range steps {
		w.Done = capped(w.Done + n)
		if who != nobody {
			paid := min(w.Debts[who], n)
			w.Debts[who] -= paid
			n -= paid
		}
		w.Credit = capped(w.Credit + n)
	}
}

func (w *working) end(live uint64) {
	w.Pacer = api.Pacer{Percent: w.Percent, Least: w.Least, Live: live, Debts: make([]uint64, len(w.Debts))}
}

// capped returns a sum, or the greatest number that there may be.
func capped(sum uint64) uint64 {
	return min(sum, api.MaxHeap)
}
