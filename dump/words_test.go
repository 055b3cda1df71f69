package dump_test

import (
	"fmt"
	"math/big"
	"regexp"
	"slices"
	"strings"

	"besom/api"
	"besom/heap"
	"besom/sample"
)

// What the chapter's words say of heaps and their text, written down once more, with patterns and with numbers that know of no greatest one.

var same = sample.SameHeaps

func bit(b api.Bits, i int) bool {
	return b.W[i/64]>>(i%64)&1 == 1
}

// objectLine is the line of the object at an address of a valid heap, or nothing if there is none.
func objectLine(h api.Heap, addr int) string {
	for _, s := range h.Spans {
		for slot := range s.Alloc.N {
			if s.First*16+slot*s.Size != addr || !bit(s.Alloc, slot) {
				continue
			}
			w, color := h.Arena.Words[addr], "white"
			if bit(s.Mark, slot) {
				color = "black"
			}
			line := fmt.Sprintf("object %d %d %d %s", addr, w&0xff, w<<8>>16, color)
			for _, field := range h.Arena.Words[addr+1:][:w&0xff] {
				line += fmt.Sprintf(" %d", field)
			}
			return line
		}
	}
	return ""
}

// linesOf are the lines of the text of a valid heap.
func linesOf(h api.Heap) []string {
	out := []string{fmt.Sprintf("heap %d", h.Pages.Used.N)}
	for _, s := range h.Spans {
		when := "old"
		if s.Swept {
			when = "swept"
		}
		out = append(out, fmt.Sprintf("span %d %d %d %s", s.First, s.Pages, s.Size, when))
		one := h
		one.Spans = []api.Span{s}
		for addr := s.First * 16; addr < (s.First+s.Pages)*16; addr++ {
			if line := objectLine(one, addr); line != "" {
				out = append(out, line)
			}
		}
	}
	return out
}

// printed is the text of a valid heap.
func printed(h api.Heap) string {
	out := ""
	for _, line := range linesOf(h) {
		out += line + "\n"
	}
	return out
}

const aNumber = "(0|[1-9][0-9]*)"

var (
	heapPattern   = regexp.MustCompile("^heap " + aNumber + "$")
	spanPattern   = regexp.MustCompile("^span " + aNumber + " " + aNumber + " " + aNumber + " (swept|old)$")
	objectPattern = regexp.MustCompile("^object " + aNumber + " " + aNumber + " " + aNumber + " (black|white)((?: " + aNumber + ")*)$")
)

// number is what digits tell. What no word has room for is -1.
func number(digits string) *big.Int {
	n, ok := new(big.Int).SetString(digits, 10)
	if !ok || !n.IsUint64() {
		return big.NewInt(-1)
	}
	return n
}

// within returns the number that digits tell, and whether it is one of those from least to most.
func within(digits string, least, most int64) (int, bool) {
	n := number(digits)
	return int(n.Int64()), n.Cmp(big.NewInt(least)) >= 0 && n.Cmp(big.NewInt(most)) <= 0
}

// draft is what was read of a heap: its pages, its spans, and its words, wherever they are.
type draft struct {
	pages int
	spans []api.Span
	last  api.Span
	words map[int]uint64
}

// parsed is what Parse answers.
func parsed(text string) (api.Heap, int, api.Errno) {
	switch {
	case len(text) > 1048576:
		return api.Heap{}, 0, api.ErrRange
	case text == "":
		return api.Heap{}, 1, api.ErrNone
	}
	lines := strings.Split(text, "\n")
	last := lines[len(lines)-1]
	if last == "" {
		lines = lines[:len(lines)-1]
	}
	d := draft{words: map[int]uint64{}}
	m := heapPattern.FindStringSubmatch(lines[0])
	if m == nil {
		return api.Heap{}, 1, api.ErrForm
	}
	pages, ok := within(m[1], 1, 1024)
	if !ok {
		return api.Heap{}, 1, api.ErrForm
	}
	d.pages = pages
	for i, line := range lines[1:] {
		if why := d.read(line); why != api.OK {
			return api.Heap{}, i + 2, why
		}
	}
	h := d.heap()
	if last != "" || heap.Check(h) != api.OK {
		return api.Heap{}, 0, api.ErrForm
	}
	return h, 0, api.OK
}

func (d *draft) read(line string) api.Errno {
	if m := spanPattern.FindStringSubmatch(line); m != nil {
		return d.readSpan(m)
	}
	if m := objectPattern.FindStringSubmatch(line); m != nil && len(d.spans) > 0 {
		return d.readObject(m)
	}
	return api.ErrForm
}

func (d *draft) readSpan(m []string) api.Errno {
	first, ok := within(m[1], 0, 1023)
	pages, also := within(m[2], 1, 4)
	size, too := within(m[3], 0, 16)
	large := size == 0 && pages > 1
	if !ok || !also || !too || !large && (pages > 1 || !slices.Contains([]int{2, 4, 8, 16}, size)) || first+pages > 1024 {
		return api.ErrForm
	}
	for _, s := range d.spans {
		if first < s.First+s.Pages && s.First < first+pages {
			return api.ErrTwice
		}
	}
	if len(d.spans) == 256 {
		return api.ErrFull
	}
	d.last = sample.Span(first, pages, size, 0, 0)
	d.last.Swept = m[4] == "swept"
	d.spans = append(d.spans, d.last)
	return api.OK
}

func (d *draft) readObject(m []string) api.Errno {
	for _, digits := range slices.Concat(m[1:4], strings.Fields(m[5])) {
		if number(digits).Sign() < 0 {
			return api.ErrForm
		}
	}
	n, ok := within(m[2], 0, 48)
	mask := number(m[3]).Uint64()
	fields := strings.Fields(m[5])
	if !ok || mask>>n != 0 || len(fields) != n {
		return api.ErrForm
	}
	s := d.last
	addr, ok := within(m[1], 0, 16383)
	slot := (addr - 16*s.First) / max(s.Size, 1)
	if !ok || addr < 16*s.First || slot >= s.Alloc.N || 16*s.First+slot*s.Size != addr || bit(s.Alloc, slot) {
		return api.ErrTwice
	}
	// The lists of the last span are those of the span in the list.
	s.Alloc.W[0] |= 1 << slot
	if m[4] == "black" {
		s.Mark.W[0] |= 1 << slot
	}
	d.words[addr] = sample.Header(n, mask)
	for i, digits := range fields {
		d.words[addr+1+i] = number(digits).Uint64()
	}
	return api.OK
}

// heap is the heap that was read.
func (d *draft) heap() api.Heap {
	slices.SortFunc(d.spans, func(a, b api.Span) int { return a.First - b.First })
	h := sample.Heap(d.pages, d.spans)
	for addr, w := range d.words {
		if addr < len(h.Arena.Words) {
			h.Arena.Words[addr] = w
		}
	}
	return h
}

// stripped is what Strip answers.
func stripped(text string, words ...string) string {
	out := ""
	lines := strings.Split(text, "\n")
	for i, line := range lines {
		first := strings.Split(line, " ")[0]
		if slices.Index(words, first) >= 0 {
			continue
		}
		out += line
		if i < len(lines)-1 {
			out += "\n"
		}
	}
	return out
}
