package rules

import (
	"testing"

	"besom/api"
)

// TestErrors: the errors have the numbers of the document's section 'Errors'.
func TestErrors(t *testing.T) {
	for want, why := range []api.Errno{
		api.OK, api.ErrRange, api.ErrForm, api.ErrNone, api.ErrTwice, api.ErrState,
		api.ErrFull, api.ErrNil, api.ErrType, api.ErrField, api.ErrDead, api.ErrTask,
	} {
		if int(why) != want {
			t.Errorf("error %d has the number %d", want, why)
		}
	}
}

// TestLimits: the limits have the values of the document's section 'Limits'.
func TestLimits(t *testing.T) {
	for _, x := range []struct {
		name      string
		got, want int
	}{
		{"MaxNodes", api.MaxNodes, 4096},
		{"MaxNotes", api.MaxNotes, 4096},
		{"MaxTimes", api.MaxTimes, 4096},
		{"MaxEvents", api.MaxEvents, 4096},
		{"MaxCode", api.MaxCode, 256},
		{"MaxText", api.MaxText, 65536},
		{"MaxLabel", api.MaxLabel, 32},
		{"MaxPercent", api.MaxPercent, 10000},
		{"MaxHeap", api.MaxHeap, 1099511627776},
		{"MaxMade", api.MaxMade, 1048576},
		{"NumClasses", api.NumClasses, 4},
		{"MaxRan", api.MaxRan, 256},
		{"MaxMutators", api.MaxMutators, 4},
		{"NumRegs", api.NumRegs, 4},
		{"MaxQueue", api.MaxQueue, 256},
		{"MaxWorkers", api.MaxWorkers, 4},
		{"MaxWeak", api.MaxWeak, 64},
		{"MaxEphem", api.MaxEphem, 64},
		{"MaxSpecials", api.MaxSpecials, 64},
		{"MaxFields", api.MaxFields, 48},
		{"MaxSpans", api.MaxSpans, 256},
		{"MaxBits", api.MaxBits, 4096},
		{"MaxWords", api.MaxWords, 16384},
		{"PageWords", api.PageWords, 16},
	} {
		if x.got != x.want {
			t.Errorf("%s is %d, not %d", x.name, x.got, x.want)
		}
	}
}
