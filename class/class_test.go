package class_test

import (
	"math"
	"runtime"
	"slices"
	"testing"

	"besom/api"
	"besom/class"
)

// slots are the words of a slot of each class, by the chapter's words.
func slots() []int {
	return []int{2, 4, 8, 16}
}

// wrongClasses and wrongWords are out of range, those next to it first.
func wrongClasses() []int {
	return []int{-1, 4, 5, 16, -4, math.MinInt, math.MinInt + 1, math.MaxInt - 1, math.MaxInt, 1 << 32, 1<<32 + 1, -1 << 32, 256, -256}
}

func wrongWords() []int {
	return []int{0, 50, 51, 64, -1, -2, -16, -49, math.MinInt, math.MinInt + 1, math.MinInt + 16, math.MaxInt - 15, math.MaxInt - 1, math.MaxInt, 1 << 32, 1<<32 + 1, -1 << 32, 256 + 3}
}

// classOf returns the class of so many words, as the chapter's words tell it, or -1.
func classOf(words int) int {
	return slices.IndexFunc(slots(), func(size int) bool { return size >= words })
}

// wasteOf returns the unused words of one object.
func wasteOf(words int) int {
	if c := classOf(words); c >= 0 {
		return slots()[c] - words
	}
	room := 16
	for room < words {
		room += 16
	}
	return room - words
}

// 4.1

func TestOf(t *testing.T) {
	for words := 1; words <= 49; words++ {
		if c, why := class.Of(words); c != classOf(words) || why != api.OK {
			t.Errorf("Of(%d): %d, error %d; want %d", words, c, why, classOf(words))
		}
	}
	for _, words := range wrongWords() {
		if c, why := class.Of(words); c != 0 || why != api.ErrRange {
			t.Errorf("Of(%d): %d, error %d", words, c, why)
		}
	}
}

func TestSize(t *testing.T) {
	for c, want := range slots() {
		if size, why := class.Size(c); size != want || why != api.OK {
			t.Errorf("Size(%d): %d, error %d; want %d", c, size, why, want)
		}
	}
	for _, c := range wrongClasses() {
		if size, why := class.Size(c); size != 0 || why != api.ErrRange {
			t.Errorf("Size(%d): %d, error %d", c, size, why)
		}
	}
}

func TestSlots(t *testing.T) {
	for c, want := range []int{8, 4, 2, 1} {
		if n, why := class.Slots(c); n != want || why != api.OK {
			t.Errorf("Slots(%d): %d, error %d; want %d", c, n, why, want)
		}
	}
	for _, c := range wrongClasses() {
		if n, why := class.Slots(c); n != 0 || why != api.ErrRange {
			t.Errorf("Slots(%d): %d, error %d", c, n, why)
		}
	}
}

func TestPages(t *testing.T) {
	for words := 1; words <= 49; words++ {
		want := 1
		for want*16 < words {
			want++
		}
		if n, why := class.Pages(words); n != want || why != api.OK {
			t.Errorf("Pages(%d): %d, error %d; want %d", words, n, why, want)
		}
	}
	for _, words := range wrongWords() {
		if n, why := class.Pages(words); n != 0 || why != api.ErrRange {
			t.Errorf("Pages(%d): %d, error %d", words, n, why)
		}
	}
}

// 4.2

func TestWasteOfOne(t *testing.T) {
	for words := 1; words <= 49; words++ {
		if n, why := class.Waste(words); n != wasteOf(words) || why != api.OK {
			t.Errorf("Waste(%d): %d, error %d; want %d", words, n, why, wasteOf(words))
		}
	}
}

func TestWasteOfMany(t *testing.T) {
	var all []int
	want := 0
	for range 3 {
		for words := 49; words >= 1; words-- {
			all = append(all, words)
			want += wasteOf(words)
			if n, why := class.Waste(all...); n != want || why != api.OK {
				t.Fatalf("Waste(%v): %d, error %d; want %d", all, n, why, want)
			}
		}
	}
	if n, why := class.Waste(slices.Repeat([]int{17}, 100000)...); n != 1500000 || why != api.OK {
		t.Errorf("Waste of 17 words a hundred thousand times: %d, error %d", n, why)
	}
}

// TestWasteOfWrongWords: wherever a wrong number stands, nothing is answered beside the error.
func TestWasteOfWrongWords(t *testing.T) {
	for _, words := range wrongWords() {
		for _, parts := range [][]int{{words}, {words, 3}, {3, words}, {3, words, 17}, {49, 1, words}, {words, words}, {words, -words}} {
			if n, why := class.Waste(parts...); n != 0 || why != api.ErrRange {
				t.Errorf("Waste(%v): %d, error %d", parts, n, why)
			}
		}
	}
}

// TestWasteOfNothing: a nil list and an empty one are the same (P1).
func TestWasteOfNothing(t *testing.T) {
	for _, parts := range [][]int{nil, {}, make([]int, 0, 8)} {
		if n, why := class.Waste(parts...); n != 0 || why != api.OK {
			t.Errorf("Waste of nothing: %d, error %d", n, why)
		}
	}
}

// 4.3

func TestFits(t *testing.T) {
	for words := 1; words <= 16; words++ {
		c, why := class.Of(words)
		if why != api.OK || c < 0 {
			t.Fatalf("Of(%d): %d, error %d", words, c, why)
		}
		if size, why := class.Size(c); size < words || why != api.OK {
			t.Errorf("%d words do not fit into the %d of class %d: error %d", words, size, c, why)
		}
		for smaller := range c {
			if size, why := class.Size(smaller); size >= words || why != api.OK {
				t.Errorf("%d words fit into the %d of class %d, and not only of class %d: error %d", words, size, smaller, c, why)
			}
		}
	}
}

// 4.4

func TestHalf(t *testing.T) {
	for words := 1; words <= 16; words++ {
		c, _ := class.Of(words)
		size, _ := class.Size(c)
		unused, why := class.Waste(words)
		if c != 0 && 2*unused >= size || why != api.OK {
			t.Errorf("of the %d words of a slot, %d words leave %d unused: error %d", size, words, unused, why)
		}
	}
}

// Examples

// TestChapterExamples are those of 4.1 and 4.2, and the one at the end of the chapter.
func TestChapterExamples(t *testing.T) {
	for _, x := range []struct {
		call           string
		of             func(int) (int, api.Errno)
		argument, want int
		why            api.Errno
	}{
		{"Of", class.Of, 2, 0, api.OK},
		{"Of", class.Of, 3, 1, api.OK},
		{"Of", class.Of, 16, 3, api.OK},
		{"Of", class.Of, 17, -1, api.OK},
		{"Of", class.Of, 49, -1, api.OK},
		{"Of", class.Of, 0, 0, api.ErrRange},
		{"Of", class.Of, 50, 0, api.ErrRange},
		{"Size", class.Size, 1, 4, api.OK},
		{"Size", class.Size, 4, 0, api.ErrRange},
		{"Slots", class.Slots, 1, 4, api.OK},
		{"Pages", class.Pages, 16, 1, api.OK},
		{"Pages", class.Pages, 17, 2, api.OK},
		{"Pages", class.Pages, 49, 4, api.OK},
	} {
		if got, why := x.of(x.argument); got != x.want || why != x.why {
			t.Errorf("%s(%d): %d, error %d; want %d, %d", x.call, x.argument, got, why, x.want, x.why)
		}
	}
	if n, why := class.Waste(1, 3, 16, 49); n != 17 || why != api.OK {
		t.Error("Waste(1, 3, 16, 49):", n, why)
	}
	if n, why := class.Waste(3, 17); n != 16 || why != api.OK {
		t.Error("Waste(3, 17):", n, why)
	}
}

// TestDocumentExample is the second of the document's ten: three words occupy a slot of four, seventeen words two pages.
func TestDocumentExample(t *testing.T) {
	c, _ := class.Of(3)
	if size, why := class.Size(c); size != 4 || why != api.OK {
		t.Error("slot of three words:", size, why)
	}
	if n, why := class.Pages(17); n != 2 || why != api.OK {
		t.Error("pages of seventeen words:", n, why)
	}
}

// The document's rules

// TestPartsAreLeft: Waste neither changes the numbers nor what is behind them, and answers the same once more (P3).
func TestPartsAreLeft(t *testing.T) {
	for _, x := range []struct {
		parts []int
		want  int
	}{{[]int{49, 3, 1, 99}, 17}, {[]int{0, 3, 1, 99}, 0}} {
		kept := slices.Clone(x.parts)
		for range 2 {
			if n, _ := class.Waste(x.parts[:3]...); n != x.want {
				t.Errorf("Waste(%v): %d; want %d", x.parts[:3], n, x.want)
			}
			if !slices.Equal(x.parts, kept) {
				t.Errorf("Waste changes %v to %v", kept, x.parts)
			}
		}
	}
}

// TestNoGoroutine: when a call has answered, no goroutine of it is left (P4).
func TestNoGoroutine(t *testing.T) {
	before := runtime.NumGoroutine()
	class.Of(3)
	class.Size(1)
	class.Slots(1)
	class.Pages(17)
	class.Waste(1, 3, 16, 49)
	// Fewer are no fault: the goroutine of an earlier test may have ended meanwhile.
	if after := runtime.NumGoroutine(); after > before {
		t.Errorf("%d goroutines, and %d before", after, before)
	}
}
