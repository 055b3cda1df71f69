package dump_test

import (
	"runtime"
	"slices"
	"testing"

	"besom/api"
	"besom/dump"
	"besom/sample"
)

// answer is what the calls with a heap answer.
type answer struct {
	text, line string
	n          int
}

func ask(h api.Heap) answer {
	text, _ := dump.Print(h)
	n, _ := dump.Lines(h)
	line, _ := dump.Object(h, 16)
	return answer{text, line, n}
}

// 30.4

// TestHeapsUnchanged: a heap that is handed in is neither changed nor kept.
func TestHeapsUnchanged(t *testing.T) {
	for i, start := range slices.Concat(sample.Heaps(), sample.WovenHeaps(), sample.BadHeaps()[:60]) {
		h, rest := sample.RoomyHeap(start)
		want := ask(h)
		if !same(h, start) || !rest() {
			t.Error(i, "changes")
		}
		for _, spoil := range sample.SpoilsOfHeap(h) {
			spoil()
		}
		if ask(start) != want {
			t.Error(i, "is kept")
		}
	}
}

// TestParseMemory: what Parse answers is new memory each time, and no two lists of it share memory, not even behind their ends.
func TestParseMemory(t *testing.T) {
	for i, h := range append(sample.Heaps(), twoObjects()) {
		text, _ := dump.Print(h)
		spoils := func() []func() {
			got, _, _ := dump.Parse(text)
			return sample.SpoilsOfHeap(got)
		}
		kept, _, _ := dump.Parse(text)
		for k := range spoils() {
			if len(h.Spans) > 20 && k%50 > 3 {
				continue
			}
			got, _, _ := dump.Parse(text)
			apart := sample.CopyHeap(got)
			sample.SpoilsOfHeap(got)[k]()
			sample.SpoilsOfHeap(apart)[k]()
			if !same(got, apart) {
				t.Error(i, "list", k, "shares memory with another one")
			}
		}
		if again, _, why := dump.Parse(text); !same(kept, h) || !same(again, h) || why != api.OK {
			t.Error(i, "answers the same memory twice")
		}
	}
}

// TestWords: the words that Strip is given are neither changed nor kept.
func TestWords(t *testing.T) {
	words := []string{"object", "heap", "object", "span"}
	for range 2 {
		if s := dump.Strip(twoText, words[:3]...); s != "span 1 1 4 swept\nspan 2 2 0 swept\n" {
			t.Errorf("%q", s)
		}
	}
	if !slices.Equal(words, []string{"object", "heap", "object", "span"}) {
		t.Error(words)
	}
	clear(words)
	if s := dump.Strip(twoText, "span", "object"); s != "heap 6\n" {
		t.Errorf("%q", s)
	}
}

// The document's rules

// TestNilIsEmpty: a nil list and an empty one are the same to every call (P1).
func TestNilIsEmpty(t *testing.T) {
	for _, spans := range [][]api.Span{nil, {}, make([]api.Span, 0, 8)} {
		h := sample.Heap(2, nil)
		h.Spans = spans
		if got := ask(h); got != (answer{text: "heap 2\n", n: 1}) {
			t.Error(got)
		}
		none := api.Heap{Arena: api.Arena{Words: []uint64{}}, Pages: api.Pages{Used: api.Bits{W: []uint64{}}}, Spans: spans}
		if s, why := dump.Print(none); s != "" || why != api.ErrForm {
			t.Error("Print of a heap without pages:", s, why)
		}
	}
	for _, words := range [][]string{nil, {}} {
		if s := dump.Strip(twoText, words...); s != twoText {
			t.Errorf("%q", s)
		}
	}
}

// TestArgumentsAlone: the same arguments have the same answers, whatever came before and whatever room is behind them (P3).
func TestArgumentsAlone(t *testing.T) {
	for i, start := range slices.Concat(sample.Heaps(), sample.WovenHeaps(), sample.BadHeaps()[:60]) {
		want := ask(start)
		for range 3 {
			h, _ := sample.RoomyHeap(start)
			if got := ask(h); got != want {
				t.Error(i, got, want)
			}
		}
		for range 3 {
			conform(t, want.text)
		}
	}
}

// TestNoGoroutine: when a call has answered, no goroutine of it is left (P4).
func TestNoGoroutine(t *testing.T) {
	before := runtime.NumGoroutine()
	for _, h := range sample.Heaps() {
		dump.Parse(ask(h).text)
		dump.Strip(ask(h).text, "span")
	}
	// Fewer are no fault: the goroutine of an earlier test may have ended meanwhile.
	if after := runtime.NumGoroutine(); after > before {
		t.Errorf("%d goroutines, and %d before", after, before)
	}
}
