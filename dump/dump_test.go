package dump_test

import (
	"fmt"
	"math"
	"slices"
	"strings"
	"testing"

	"besom/api"
	"besom/dump"
	"besom/heap"
	"besom/sample"
)

// twoObjects is the heap of the chapter's examples.
func twoObjects() api.Heap {
	return sample.Heap(6, []api.Span{sample.Span(1, 1, 4, 1, 1), sample.Span(2, 2, 0, 1, 0)},
		sample.Object{Addr: 16, N: 2, Mask: 2, Fields: []uint64{0, 16}}, sample.Object{Addr: 32, N: 17, Fields: []uint64{16: 9}})
}

const twoText = "heap 6\nspan 1 1 4 swept\nobject 16 2 2 black 0 16\nspan 2 2 0 swept\nobject 32 17 0 white 0 0 0 0 0 0 0 0 0 0 0 0 0 0 0 0 9\n"

// text returns lines, each with a line feed.
func text(lines ...string) string {
	return strings.Join(append(lines, ""), "\n")
}

// expect holds Parse to an answer, and this to the chapter's words.
func expect(t *testing.T, text string, want api.Heap, line int, no api.Errno) {
	t.Helper()
	if h, at, why := parsed(text); !same(h, want) || at != line || why != no {
		t.Errorf("%.200q: by the chapter's words line %d, error %d; want %d, %d", text, at, why, line, no)
	}
	conform(t, text)
}

// conform holds Parse to the chapter's words.
func conform(t *testing.T, text string) api.Errno {
	t.Helper()
	want, line, no := parsed(text)
	if h, at, why := dump.Parse(text); !same(h, want) || at != line || why != no {
		t.Fatalf("%.200q: line %d, error %d; want %d, %d", text, at, why, line, no)
	}
	return no
}

// refused holds Parse to an error.
func refused(t *testing.T, text string, line int, no api.Errno) {
	t.Helper()
	expect(t, text, api.Heap{}, line, no)
}

// TestChapter: the chapter's own examples.
func TestChapter(t *testing.T) {
	h, _ := heap.Make(6)
	h, a, _ := heap.New(h, api.Shape{N: 2, Mask: 2}, true)
	h, b, _ := heap.New(h, api.Shape{N: 17}, false)
	h, _ = heap.Store(h, a, 1, a, true)
	h, why := heap.Store(h, b, 16, 9, false)
	if !same(h, twoObjects()) || why != api.OK {
		t.Fatal(h, why)
	}
	if s, why := dump.Print(h); s != twoText || why != api.OK {
		t.Errorf("Print: %q, error %d", s, why)
	}
	if n, why := dump.Lines(h); n != 5 || why != api.OK {
		t.Error("Lines:", n, why)
	}
	if s, why := dump.Object(h, 16); s != "object 16 2 2 black 0 16" || why != api.OK {
		t.Errorf("Object: %q, error %d", s, why)
	}
	if s := dump.Strip(twoText, "object", "heap"); s != "span 1 1 4 swept\nspan 2 2 0 swept\n" {
		t.Errorf("Strip: %q", s)
	}
	expect(t, twoText, h, 0, api.OK)
	refused(t, "", 1, api.ErrNone)
	refused(t, "heap 0\n", 1, api.ErrForm)
	refused(t, "heap 2", 0, api.ErrForm)
	refused(t, text("heap 2", "object 16 0 0 white"), 2, api.ErrForm)
	refused(t, text("heap 2", "span 1 1 2 old", "object 17 0 0 white"), 3, api.ErrTwice)
	refused(t, text("heap 2", "span 1 1 2 old", "span 1 1 4 old"), 3, api.ErrTwice)
	refused(t, text("heap 2", "span 1 1 2 swept", "object 16 1 1 white 18"), 0, api.ErrForm)
	expect(t, text("heap 2", "span 1 1 2 old", "object 16 1 1 white 18"),
		sample.Heap(2, []api.Span{sample.Unswept(sample.Span(1, 1, 2, 1, 0))}, sample.Object{Addr: 16, N: 1, Mask: 1, Fields: []uint64{18}}), 0, api.OK)
	expect(t, text("heap 3", "span 1 1 2 swept", "object 16 1 1 white 0"), sample.Heap(3, []api.Span{sample.Span(1, 1, 2, 1, 0)}, sample.Object{Addr: 16, N: 1, Mask: 1}), 0, api.OK)
}

// 30.1

func TestPrint(t *testing.T) {
	for i, h := range heaps() {
		if s, why := dump.Print(h); s != printed(h) || why != api.OK {
			t.Errorf("heap %d: %.300q, error %d; want %.300q", i, s, why, printed(h))
		}
		if n, why := dump.Lines(h); n != len(linesOf(h)) || why != api.OK {
			t.Errorf("heap %d: %d lines, error %d; want %d", i, n, why, len(linesOf(h)))
		}
	}
	for _, x := range []struct {
		h    api.Heap
		want string
	}{
		{sample.Heap(1, nil), "heap 1\n"}, {sample.Heap(1024, nil), "heap 1024\n"},
		{sample.Heap(9, []api.Span{sample.Unswept(sample.Span(2, 1, 16, 0, 0)), sample.Span(5, 4, 0, 0, 0)}), "heap 9\nspan 2 1 16 old\nspan 5 4 0 swept\n"},
		{sample.Heap(2, []api.Span{sample.Unswept(sample.Span(1, 1, 2, 7, 4))}, sample.Object{Addr: 16, N: 1, Fields: []uint64{math.MaxUint64}}, sample.Object{Addr: 18, N: 1, Mask: 1, Fields: []uint64{7}}, sample.Object{Addr: 20}),
			"heap 2\nspan 1 1 2 old\nobject 16 1 0 white 18446744073709551615\nobject 18 1 1 white 7\nobject 20 0 0 black\n"},
		{sample.Heap(6, []api.Span{sample.Span(1, 4, 0, 1, 1)}, sample.Object{Addr: 16, N: 48, Mask: 1<<48 - 1}), "heap 6\nspan 1 4 0 swept\nobject 16 48 281474976710655 black" + strings.Repeat(" 0", 48) + "\n"},
	} {
		if s, why := dump.Print(x.h); s != x.want || why != api.OK {
			t.Errorf("%q, error %d; want %q", s, why, x.want)
		}
		expect(t, x.want, x.h, 0, api.OK)
	}
}

// TestObject: there is a line for each current object, and for no other address.
func TestObject(t *testing.T) {
	counts := map[api.Errno]int{}
	for i, h := range heaps() {
		n := len(h.Arena.Words)
		addrs := []uint64{uint64(n), uint64(n) + 1, 16384, 1<<32 + 16, 1<<60 + 16, 1 << 63, math.MaxUint64 - 15, math.MaxUint64}
		for addr := 0; addr < n; addr += max(1, n/300) {
			addrs = append(addrs, uint64(addr))
		}
		for _, addr := range addrs {
			_, no := heap.At(h, addr)
			want := ""
			if no == api.OK {
				want = objectLine(h, int(addr))
			}
			if s, why := dump.Object(h, addr); s != want || why != no {
				t.Fatalf("heap %d, %d: %q, error %d; want %q, %d", i, addr, s, why, want, no)
			}
			counts[no]++
		}
	}
	if counts[api.OK] < 100 || counts[api.ErrNil] < 10 || counts[api.ErrDead] < 100 {
		t.Error("too few of a kind:", counts)
	}
	// What is not current has a line in the text, but is no object to be asked for.
	h := sample.Heap(2, []api.Span{sample.Unswept(sample.Span(1, 1, 4, 5, 4))}, sample.Object{Addr: 16, N: 3}, sample.Object{Addr: 24, N: 2, Mask: 1, Fields: []uint64{24, 5}})
	for addr, want := range map[uint64]api.Errno{0: api.ErrNil, 16: api.ErrDead, 17: api.ErrDead, 20: api.ErrDead, 24: api.OK, 25: api.ErrDead, 32: api.ErrDead} {
		line := map[bool]string{true: "object 24 2 1 black 24 5"}[want == api.OK]
		if s, why := dump.Object(h, addr); s != line || why != want {
			t.Errorf("%d: %q, error %d; want %d", addr, s, why, want)
		}
	}
}

// TestInvalidComesFirst: a heap that is not valid is refused as that, whatever else is wrong.
func TestInvalidComesFirst(t *testing.T) {
	for i, h := range sample.BadHeaps() {
		if s, why := dump.Print(h); s != "" || why != api.ErrForm {
			t.Errorf("Print of invalid heap %d: %q, error %d", i, s, why)
		}
		if n, why := dump.Lines(h); n != 0 || why != api.ErrForm {
			t.Errorf("Lines of invalid heap %d: %d, error %d", i, n, why)
		}
		for _, addr := range []uint64{0, 7, 16, 17, 20, 32, 1 << 40, math.MaxUint64} {
			if s, why := dump.Object(h, addr); s != "" || why != api.ErrForm {
				t.Errorf("Object of invalid heap %d, %d: %q, error %d", i, addr, s, why)
			}
		}
	}
}

// 30.2

// TestHeapLines: the first line is that of a heap of 1 to 1024 pages.
func TestHeapLines(t *testing.T) {
	for _, n := range []int{1, 2, 9, 10, 63, 64, 65, 999, 1000, 1023, 1024} {
		line := fmt.Sprint("heap ", n)
		expect(t, line+"\n", sample.Heap(n, nil), 0, api.OK)
		refused(t, line, 0, api.ErrForm)
		refused(t, line+"\n\n", 2, api.ErrForm)
		refused(t, line+"\n"+line+"\n", 2, api.ErrForm)
		refused(t, line+"\r\n", 1, api.ErrForm)
		refused(t, "\n"+line+"\n", 1, api.ErrForm)
	}
	for _, line := range []string{
		"", " ", "heap", "heap ", "heap  2", " heap 2", "heap 2 ", "heap 2 2", "heap\t2", "heap 2\t", "heap2", "Heap 2", "HEAP 2", "heap two", "heaps 2", "hea 2", "heap 02", "heap 00", "heap 0", "heap +2", "heap -2", "heap -0", "heap 2.0", "heap 2e0", "heap 0x2", "heap 1_0", "heap 2,", "heap ٢",
		"heap 1025", "heap 1026", "heap 2048", "heap 4096", "heap 16384", "heap 10000000000", "heap 4294967297", "heap 4294967298", "heap 9223372036854775807", "heap 9223372036854775808", "heap 9223372036854775809", "heap 18446744073709551615", "heap 18446744073709551616", "heap 18446744073709551618", "heap 36893488147419103234",
		"span 1 1 2 old", "object 16 0 0 white", "2", "\x00heap 2", "heap 2\x00", "\ufeffheap 2", "heap " + strings.Repeat("9", 50000), "heap" + strings.Repeat(" 2", 50000),
	} {
		refused(t, line+"\n", 1, api.ErrForm)
		refused(t, text(line, "span 1 1 2 old"), 1, api.ErrForm)
		if line != "" {
			refused(t, line, 1, api.ErrForm)
		}
	}
}

// TestSpanLines: of a span there are the numbers that span.Make accepts, and whether it is Swept.
func TestSpanLines(t *testing.T) {
	for _, s := range []struct{ first, pages, size int }{{1, 1, 2}, {1, 1, 4}, {1, 1, 8}, {1, 1, 16}, {1, 2, 0}, {1, 3, 0}, {1, 4, 0}, {9, 1, 2}, {10, 1, 4}, {1019, 4, 0}, {1023, 1, 16}, {1022, 2, 0}} {
		x := sample.Span(s.first, s.pages, s.size, 0, 0)
		line := fmt.Sprintf("span %d %d %d ", s.first, s.pages, s.size)
		expect(t, text("heap 1024", line+"swept"), sample.Heap(1024, []api.Span{x}), 0, api.OK)
		expect(t, text("heap 1024", line+"old"), sample.Heap(1024, []api.Span{sample.Unswept(x)}), 0, api.OK)
		refused(t, text("heap 1024", line+"old")+"heap 1024", 3, api.ErrForm)
		refused(t, "heap 1024\n"+line+"old", 0, api.ErrForm)
		for _, last := range []string{"", "sweep", "swept ", "Swept", "new", "black", "white", "old ", "old 0", "swept 0", "swept old", " old", "0", "\told", "old\r", "swep", "oldest"} {
			refused(t, text("heap 1024", line+last), 2, api.ErrForm)
			refused(t, "heap 1024\n"+line+last, 2, api.ErrForm)
		}
	}
	for _, numbers := range []string{
		"1 1 3", "1 1 0", "1 1 1", "1 1 5", "1 1 17", "1 1 32", "1 2 2", "1 2 4", "1 2 16", "1 0 2", "1 0 0", "1 5 0", "1 16 0", "1024 1 2", "1023 2 0", "1021 4 0", "16384 1 2", "1 1", "1", "", "1 1 2 2", "1 1 2 2 2",
		"-1 1 2", "1 -1 2", "1 1 -2", "+1 1 2", "01 1 2", "1 01 2", "1 1 02", "00 1 2", "1 2 00", "1  1 2", " 1 1 2", "1 1 2 ", "1 1 two", "one 1 2", "1,1,2", "1 1 2.", "1\t1 2", "x 1 2", "1 x 2", "1 1 x",
		"4294967297 1 2", "1 4294967297 2", "1 1 4294967298", "1 4294967298 0", "1 2 4294967296", "18446744073709551617 1 2", "1 18446744073709551617 2", "1 1 18446744073709551618", "18446744073709551615 1 2", "1 18446744073709551615 0", "1 1 18446744073709551615", "9223372036854775807 1 2", "9223372036854775808 1 2", "18446744073709551614 2 0", "1 2 18446744073709551616",
	} {
		for _, last := range []string{"swept", "old"} {
			refused(t, text("heap 1024", "span "+numbers+" "+last), 2, api.ErrForm)
			refused(t, text("heap 1024", "span 3 1 4 old", "object 48 2 0 black 1 1", "span "+numbers+" "+last), 4, api.ErrForm)
		}
	}
	for _, line := range []string{"spam 1 1 2 old", "Span 1 1 2 old", "spans 1 1 2 old", " span 1 1 2 old", "span\t1 1 2 old", "span", "span ", "span1 1 2 old", "1 1 2 old", "old", "old 1 1 2", "span old 1 1 2", "\x00span 1 1 2 old", "", " ", "#", "heap", "heap 1024"} {
		refused(t, text("heap 1024", line), 2, api.ErrForm)
	}
}

// TestSpanPlaces: a span shares no page with an earlier one, and there are at most 256; where they are in the heap is asked for in the end.
func TestSpanPlaces(t *testing.T) {
	one, two := sample.Span(1, 1, 2, 0, 0), sample.Span(2, 3, 0, 0, 0)
	expect(t, text("heap 6", "span 1 1 2 swept", "span 2 3 0 swept"), sample.Heap(6, []api.Span{one, two}), 0, api.OK)
	expect(t, text("heap 6", "span 2 3 0 swept", "span 1 1 2 swept"), sample.Heap(6, []api.Span{one, two}), 0, api.OK)
	for line, why := range map[string]api.Errno{
		"span 1 1 4 old": api.OK, "span 5 1 4 old": api.OK, "span 2 1 4 old": api.ErrTwice, "span 3 1 4 old": api.ErrTwice, "span 4 1 4 old": api.ErrTwice, "span 2 3 0 swept": api.ErrTwice, "span 1 2 0 old": api.ErrTwice, "span 4 4 0 old": api.ErrTwice, "span 0 3 0 old": api.ErrTwice,
		"span 3 2 4 old": api.ErrForm, "span 3 1 4 new": api.ErrForm, "span 3 1 0 old": api.ErrForm,
	} {
		lines := text("heap 6", "span 2 3 0 swept", line)
		if got := conform(t, lines); got != why {
			t.Errorf("%q: error %d; want %d", lines, got, why)
		}
	}
	for _, lines := range []string{"span 0 1 2 old", "span 0 2 0 swept", "span 6 1 2 old", "span 5 2 0 old", "span 3 4 0 swept", "span 1023 1 2 old", "span 1020 4 0 old", "span 6 1 2 old\nobject 96 0 0 black", "span 5 2 0 swept\nobject 80 17 1 white 80" + strings.Repeat(" 1", 16), "span 1020 4 0 old\nobject 16320 48 0 black" + strings.Repeat(" 1", 48), "span 0 1 2 swept\nobject 0 1 1 black 0"} {
		refused(t, text("heap 6", lines), 0, api.ErrForm)
		refused(t, text("heap 6", lines, "span 2 1 2 old", "object 32 1 1 white 32"), 0, api.ErrForm)
		refused(t, text("heap 6", lines, "x"), 3+strings.Count(lines, "\n"), api.ErrForm)
	}
	many := func(n int) []string {
		l := []string{"heap 1024"}
		for i := range n {
			l = append(l, fmt.Sprintf("span %d 1 %d swept", 1+(i*7)%300, []int{2, 4, 8, 16}[i%4]))
		}
		return l
	}
	if why := conform(t, text(many(256)...)); why != api.OK {
		t.Error(why)
	}
	refused(t, text(many(257)...), 258, api.ErrFull)
	refused(t, text(many(300)...), 258, api.ErrFull)
	refused(t, text(append(many(256), "span 1 1 2 old")...), 258, api.ErrTwice)
	refused(t, text(append(many(256), "span 1 1 3 old")...), 258, api.ErrForm)
	refused(t, text(append(many(256), "span 1000 4 0 old")...), 258, api.ErrFull)
	refused(t, text(append(many(256), "x", "span 1000 4 0 old")...), 258, api.ErrForm)
}

// TestObjectLines: of an object there are its address, a valid shape, whether it is marked, and its fields.
func TestObjectLines(t *testing.T) {
	before := []string{"heap 8", "span 1 1 4 old"}
	for _, rest := range []string{"2 0 white 0 0", "2 3 white 0 0", "3 7 white 0 16 1", "2 0 black 18446744073709551615 1", "3 4 white 18446744073709551615 9223372036854775808 17"} {
		if why := conform(t, text(append(before, "object 16 "+rest)...)); why != api.OK {
			t.Errorf("%s: error %d", rest, why)
		}
		refused(t, text("heap 8", "object 16 "+rest), 2, api.ErrForm)
		refused(t, text("object 16 "+rest), 1, api.ErrForm)
	}
	for _, line := range []string{
		"object", "object ", "object 16", "object 16 2", "object 16 2 0", "object 16 2 0 white", "object 16 2 0 white 0", "object 16 2 0 white 0 0 0", "object 16 2 0 0 0", "object 16 2 0 0 0 white", "object 16 2 0 White 0 0", "object 16 2 0 grey 0 0", "object 16 2 0 old 0 0", "object 16 2 0 swept 0 0", "object 16 2 white 0 0", "object 16 2 0 white 0 0 white", "object 16 2 0 white black 0",
		"object 16 2 4 white 0 0", "object 16 2 18446744073709551615 white 0 0", "object 16 49 0 white" + strings.Repeat(" 0", 49), "object 16 48 281474976710656 white" + strings.Repeat(" 0", 48), "object 16 0 1 white", "object 16 4294967298 0 white 0 0", "object 16 18446744073709551618 0 white 0 0", "object 16 18446744073709551615 0 white", "object 16 9223372036854775808 0 white", "object 16 16384 0 white", "object 16 16385 0 white 0",
		"object 16 2 18446744073709551616 white 0 0", "object 16 2 0 white 18446744073709551616 0", "object 16 2 0 white 0 18446744073709551617", "object 18446744073709551616 2 0 white 0 0", "object 18446744073709551632 2 0 white 0 0",
		"object -16 2 0 white 0 0", "object +16 2 0 white 0 0", "object 016 2 0 white 0 0", "object 16 02 0 white 0 0", "object 16 2 00 white 0 0", "object 16 2 0 white 00 0", "object 16 2 0 white 0 -1", "object 16 2 0 white 0 01", "object 16 2 0 white 0 x", "object x 2 0 white 0 0", "object 16 x 0 white 0 0", "object 16 2 x white 0 0", "object 0x10 2 0 white 0 0",
		"object  16 2 0 white 0 0", "object 16  2 0 white 0 0", "object 16 2  0 white 0 0", "object 16 2 0  white 0 0", "object 16 2 0 white  0 0", "object 16 2 0 white 0  0", "object 16 2 0 white 0 0 ", " object 16 2 0 white 0 0", "object\t16 2 0 white 0 0", "object 16 2 0 white\t0 0", "object 16 2 0 white 0 0\r", "Object 16 2 0 white 0 0", "objects 16 2 0 white 0 0", "object16 2 0 white 0 0", "objec 16 2 0 white 0 0",
	} {
		refused(t, text(append(before, line)...), 3, api.ErrForm)
		refused(t, text(append(before, "object 20 2 0 white 1 1", line)...), 4, api.ErrForm)
		refused(t, strings.Join(append(before, line), "\n"), 3, api.ErrForm)
		// The line is asked for before the address is.
		refused(t, text(append(before, strings.Replace(line, "16", "17", 1), "x")...), 3, api.ErrForm)
	}
}

// TestObjectPlaces: an object is in a slot of the last span in which there is none.
func TestObjectPlaces(t *testing.T) {
	for _, s := range []struct{ pages, size int }{{1, 2}, {1, 4}, {1, 8}, {1, 16}, {2, 0}, {3, 0}, {4, 0}} {
		span := fmt.Sprintf("span 2 %d %d swept", s.pages, s.size)
		n := map[int]int{2: 1, 4: 3, 8: 7, 16: 15, 0: 16*s.pages - 1}[s.size]
		n = min(n, 48)
		rest := fmt.Sprintf(" %d 0 black", n) + strings.Repeat(" 5", n)
		for addr := range 128 {
			line := fmt.Sprint("object ", addr) + rest
			end := 32 + 16*s.pages
			if addr < 32 || addr >= end || s.size > 0 && addr%s.size != 0 || s.size == 0 && addr != 32 {
				refused(t, text("heap 8", "span 1 1 2 old", span, line), 4, api.ErrTwice)
				refused(t, text("heap 8", span, line, "x"), 3, api.ErrTwice)
				continue
			}
			slot := 0
			if s.size > 0 {
				slot = (addr - 32) / s.size
			}
			want := sample.Heap(8, []api.Span{sample.Span(2, s.pages, s.size, 1<<slot, 1<<slot)}, sample.Object{Addr: uint64(addr), N: n, Fields: slices.Repeat([]uint64{5}, n)})
			expect(t, text("heap 8", span, line), want, 0, api.OK)
			refused(t, text("heap 8", span, line, line), 4, api.ErrTwice)
			refused(t, text("heap 8", span, line, strings.Replace(line, "black", "white", 1)), 4, api.ErrTwice)
			refused(t, text("heap 8", span, line, "span 1 1 16 old", line), 5, api.ErrTwice)
		}
		for _, addr := range []string{"16384", "16416", "4294967328", "9223372036854775840", "18446744073709551584", "18446744073709551615"} {
			refused(t, text("heap 8", span, "object "+addr+rest), 3, api.ErrTwice)
		}
	}
	// In any order, and behind the span that was read last, wherever this is.
	want := sample.Heap(8, []api.Span{sample.Span(1, 1, 8, 1, 1), sample.Span(4, 1, 4, 11, 8)},
		sample.Object{Addr: 16, N: 4, Mask: 9, Fields: []uint64{76, 0, 0, 64}}, sample.Object{Addr: 64, N: 3}, sample.Object{Addr: 68, N: 2, Mask: 1, Fields: []uint64{16, 16}}, sample.Object{Addr: 76, N: 3})
	one, four := []string{"span 1 1 8 swept", "object 16 4 9 black 76 0 0 64"}, []string{"span 4 1 4 swept", "object 76 3 0 black 0 0 0", "object 64 3 0 white 0 0 0", "object 68 2 1 white 16 16"}
	expect(t, text(slices.Concat([]string{"heap 8"}, one, four)...), want, 0, api.OK)
	expect(t, text(slices.Concat([]string{"heap 8"}, four, one)...), want, 0, api.OK)
	refused(t, text(slices.Concat([]string{"heap 8"}, four[:3], one, four[3:])...), 7, api.ErrTwice)
}

// TestObjectsThatDoNotGo: what does not go with its span, wherever its words would be, makes a heap that is not valid.
func TestObjectsThatDoNotGo(t *testing.T) {
	for _, s := range []struct{ pages, size, least, most int }{{1, 2, 0, 1}, {1, 4, 2, 3}, {1, 8, 4, 7}, {1, 16, 8, 15}, {2, 0, 16, 31}, {3, 0, 32, 47}, {4, 0, 48, 48}} {
		for _, first := range []int{1, 2, 6 - s.pages} {
			for n := range 49 {
				line := fmt.Sprintf("object %d %d 0 white", 16*first, n) + strings.Repeat(" 7", n)
				lines := []string{"heap 6", fmt.Sprintf("span %d %d %d swept", first, s.pages, s.size), line}
				want := api.ErrForm
				if n >= s.least && n <= s.most {
					want = api.OK
				}
				if why := conform(t, text(lines...)); why != want {
					t.Errorf("%q: error %d; want %d", lines, why, want)
				}
				if s.size == 0 {
					continue
				}
				// Others are written over, or write over it.
				for slot := range 16/s.size - 1 {
					other := fmt.Sprintf("object %d %d 0 black", 16*first+s.size*(slot+1), s.most) + strings.Repeat(" 8", s.most)
					conform(t, text(append(lines, other)...))
					conform(t, text(lines[0], lines[1], other, line))
				}
			}
		}
	}
	// A header word of which another object has written over is none of its own.
	refused(t, text("heap 3", "span 1 1 2 swept", "object 16 3 0 white 1 "+fmt.Sprint(sample.Header(0, 0))+" 0", "object 18 1 0 white 0"), 0, api.ErrForm)
	refused(t, text("heap 3", "span 2 1 4 swept", "object 32 0 0 white", "span 1 1 16 swept", "object 16 18 0 white"+strings.Repeat(" 0", 15)+" "+fmt.Sprint(sample.Header(3, 0))+" 0 0"), 0, api.ErrForm)
}

// TestParseErrors: of several errors the first one is told, and that of the text as a whole comes last.
func TestParseErrors(t *testing.T) {
	for _, x := range []struct {
		text string
		line int
		want api.Errno
	}{
		{"\n", 1, api.ErrForm}, {"\n\n", 1, api.ErrForm}, {" ", 1, api.ErrForm}, {"x", 1, api.ErrForm}, {"heap 2 \n", 1, api.ErrForm},
		{"heap 2\n\n", 2, api.ErrForm}, {"heap 2\n ", 2, api.ErrForm}, {"heap 2\n\nspan 1 1 2 old\n", 2, api.ErrForm}, {"heap 2\nspan 1 1 2 old\n\n", 3, api.ErrForm}, {"heap 2\nx\nspan", 2, api.ErrForm},
		{"heap 2\nspan 1 1 2 old", 0, api.ErrForm}, {"heap 2\nspan 1 1 2 old\nobject 16 0 0 white", 0, api.ErrForm}, {"heap 2\nspan 1 1 2 old\nobject 17 0 0 white", 3, api.ErrTwice}, {"heap 2\nspan 1 1 2 old\nspan 1 1 2 old", 3, api.ErrTwice}, {"heap 2\nspan 2 1 2 old", 0, api.ErrForm},
		{"heap 2\nspan 5 1 2 old\nspan 5 1 2 old\n", 3, api.ErrTwice}, {"heap 2\nspan 5 1 2 old\nobject 81 0 0 white\n", 3, api.ErrTwice}, {"heap 2\nspan 5 1 2 old\nobject 80 0 0 white\n", 0, api.ErrForm}, {"heap 2\nspan 5 1 2 old\nobject 80 0 0 white\nobject 80 0 0 white\n", 4, api.ErrTwice},
		{"heap 2\nspan 1 1 2 old\nobject 16 1 0 white\nobject 17 0 0 white\n", 3, api.ErrForm}, {"heap 2\nspan 1 1 2 old\nobject 17 0 0 white\nobject 16 1 0 white\n", 3, api.ErrTwice}, {"heap 2\nobject 16 0 0 white\nspan 1 1 2 old\n", 2, api.ErrForm}, {"heap 2\nspan 1 1 2 swept\nobject 16 1 1 white 17\nspan\n", 4, api.ErrForm},
		{"heap 2\nspan 1 1 2 swept\nobject 16 1 1 white 17\n", 0, api.ErrForm}, {"heap 2\nspan 1 1 2 swept\nobject 16 1 1 black 18\nobject 18 1 1 white 16", 0, api.ErrForm}, {"heap 2\nspan 1 1 2 old\nobject 16 1 1 black 18\nobject 18 0 0 white\n", 0, api.ErrForm}, {"heap 2\nspan 1 1 2 swept\nobject 16 2 0 white 1 1\n", 0, api.ErrForm},
	} {
		refused(t, x.text, x.line, x.want)
	}
	for _, good := range []string{"heap 2\nspan 1 1 2 swept\nobject 16 1 1 black 18\nobject 18 1 1 white 16\n", "heap 2\nspan 1 1 2 old\nobject 16 1 1 black 18\nobject 18 0 0 black\n", "heap 2\nspan 1 1 2 swept\nobject 16 1 0 white 17\n"} {
		if why := conform(t, good); why != api.OK {
			t.Errorf("%q: error %d", good, why)
		}
		refused(t, strings.TrimSuffix(good, "\n"), 0, api.ErrForm)
	}
}

// TestParseLong: a text has at most 1048576 bytes, and what is longer is refused whatever is in it.
func TestParseLong(t *testing.T) {
	for n, want := range map[int]api.Errno{1048575: api.ErrForm, 1048576: api.ErrForm, 1048577: api.ErrRange, 1048578: api.ErrRange, 1 << 22: api.ErrRange} {
		line := map[api.Errno]int{api.ErrForm: 2}[want]
		refused(t, "heap 2\n"+strings.Repeat("\n", n-7), line, want)
		refused(t, "heap 2\n"+strings.Repeat(" ", n-7), line, want)
		refused(t, "heap 2\n"+strings.Repeat("9", n-8)+"\n", line, want)
		refused(t, "heap 2\nspan"+strings.Repeat(" 1", (n-11)/2)+strings.Repeat("1", (n-11)%2), line, want)
		refused(t, "heap 2\nobject"+strings.Repeat(" 1", (n-13)/2)+strings.Repeat("1", (n-13)%2), line, want)
	}
	refused(t, strings.Repeat("\n", 1048576), 1, api.ErrForm)
	refused(t, strings.Repeat("\n", 1048577), 0, api.ErrRange)
	refused(t, text("heap 2", "span 1 1 2 old", "object 16 1 0 white "+strings.Repeat("9", 500000)), 3, api.ErrForm)
}

// TestParseSomeTexts: texts of heaps, some of which are changed as it comes, are answered as the chapter's words say.
func TestParseSomeTexts(t *testing.T) {
	p := sample.Picks(301)
	whys := map[api.Errno]int{}
	for range 8000 {
		lines := linesOf(sample.Web(&p, p.Below(6)))
		for range p.Below(4) {
			lines = shuffled(&p, lines)
		}
		s := text(lines...)
		for range p.Below(3) {
			s = sample.Spoilt(&p, s, "\n\n   00123456789ablosw\t\r-+\x00")
		}
		whys[conform(t, s)]++
	}
	for _, why := range []api.Errno{api.OK, api.ErrForm, api.ErrTwice} {
		if whys[why] < 300 {
			t.Error("too few of a kind:", whys)
		}
	}
}

// shuffled returns lines of which one is missing, there twice, elsewhere, or changed by another word.
func shuffled(p *sample.Picks, lines []string) []string {
	lines = slices.Clone(lines)
	at, to := p.Below(len(lines)), p.Below(len(lines))
	switch p.Below(5) {
	case 0:
		return append(slices.Delete(lines, at, at+1), "span 1000 1 2 old")
	case 1:
		return slices.Insert(lines, at, lines[to])
	case 2:
		lines[at], lines[to] = lines[to], lines[at]
		return lines
	}
	words := strings.Split(lines[at], " ")
	words[p.Below(len(words))] = []string{"0", "1", "2", "16", "18", "32", "48", "49", "old", "swept", "black", "white", "7", "1024"}[p.Below(14)]
	lines[at] = strings.Join(words, " ")
	return lines
}

// 30.3

func TestStrip(t *testing.T) {
	for _, x := range []struct {
		text  string
		words []string
		want  string
	}{
		{"", nil, ""}, {"", []string{""}, ""}, {"", []string{"a"}, ""}, {"\n", nil, "\n"}, {"\n", []string{""}, ""}, {"\n", []string{"a"}, "\n"}, {"\n\n\n", []string{""}, ""}, {"\n\n\n", []string{" ", "\n"}, "\n\n\n"},
		{"a", nil, "a"}, {"a", []string{"a"}, ""}, {"a", []string{"b"}, "a"}, {"a\n", []string{"a"}, ""}, {"a\n", []string{""}, "a\n"}, {"a\nb", []string{"a"}, "b"}, {"a\nb", []string{"b"}, "a\n"}, {"a\nb\n", []string{"b"}, "a\n"}, {"a\nb\na", []string{"a"}, "b\n"}, {"a\nb\na", []string{"b"}, "a\na"}, {"a\nb\na", []string{"b", "a"}, ""}, {"a\n\nb", []string{""}, "a\nb"}, {"a\n\nb\n", []string{"", "b"}, "a\n"},
		{"a b\nb a", []string{"a"}, "b a"}, {"a b\nb a", []string{"b"}, "a b\n"}, {"a b\nb a", []string{"a b"}, "a b\nb a"}, {" a\na", []string{"a"}, " a\n"}, {" a\na", []string{""}, "a"}, {"a  b\na", []string{"a"}, ""}, {"a ", []string{"a"}, ""}, {"a ", []string{"a "}, "a "}, {" ", []string{""}, ""}, {" \n \n", []string{""}, ""}, {"  x", []string{"x", " "}, "  x"},
		{"ab\na\nabc", []string{"ab"}, "a\nabc"}, {"a\tb\na", []string{"a"}, "a\tb\n"}, {"a\tb\na", []string{"a\tb"}, "a"}, {"a\r\na\n", []string{"a"}, "a\r\n"}, {"a\r\na\n", []string{"a\r"}, "a\n"}, {"A\na", []string{"a"}, "A\n"}, {"a\u00a0b", []string{"a"}, "a\u00a0b"}, {"\xff \n\xfe", []string{"\xff"}, "\xfe"}, {"\x00", []string{"\x00"}, ""}, {"\x00", []string{""}, "\x00"}, {"é x\ne", []string{"é"}, "e"},
		{"a\nb\nc\nd", []string{"d", "b", "b", "d"}, "a\nc\n"}, {"a\n b\n", []string{"a\n", "a\n "}, "a\n b\n"}, {twoText, []string{"object", "span", "heap"}, ""}, {twoText, []string{"obj", "16", "swept", "heap 6"}, twoText}, {twoText, nil, twoText},
	} {
		if got := stripped(x.text, x.words...); got != x.want {
			t.Errorf("%q without %q: by the chapter's words %q; want %q", x.text, x.words, got, x.want)
		}
		if got := dump.Strip(x.text, x.words...); got != x.want {
			t.Errorf("%q without %q: %q; want %q", x.text, x.words, got, x.want)
		}
	}
}

// TestStripSomeTexts: texts as they come are stripped as the chapter's words say.
func TestStripSomeTexts(t *testing.T) {
	p := sample.Picks(303)
	parts := []string{"a", "b", "ab", " ", "\n", "\n", "  ", "\r", "\t", "span", "heap", "\xff", "é", "\x00"}
	some := func(n int) string {
		out := ""
		for range p.Below(n) {
			out += parts[p.Below(len(parts))]
		}
		return out
	}
	shorter := 0
	for range 20000 {
		s := some(30)
		var words []string
		for range p.Below(5) {
			words = append(words, some(3))
		}
		want := stripped(s, words...)
		if got := dump.Strip(s, words...); got != want {
			t.Fatalf("%q without %q: %q; want %q", s, words, got, want)
		}
		if len(want) < len(s) {
			shorter++
		}
	}
	if shorter < 2000 {
		t.Error(shorter)
	}
	long := strings.Repeat("a b\nb a\n", 200000)
	if s := dump.Strip(long, "b", "c"); s != strings.Repeat("a b\n", 200000) {
		t.Error(len(s))
	}
}
