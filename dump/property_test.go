package dump_test

import (
	"testing"

	"besom/api"
	"besom/dump"
	"besom/heap"
	"besom/sample"
)

// heaps are valid ones, and such whose objects refer to one another as it comes.
func heaps() []api.Heap {
	p := sample.Picks(300)
	out := append(sample.Heaps(), twoObjects(), sample.FourLists())
	for i := range 300 {
		out = append(out, sample.Web(&p, i%20))
	}
	return out
}

// 30.5

// TestThereAndBack: Parse of Print is the heap.
func TestThereAndBack(t *testing.T) {
	for i, h := range heaps() {
		s, no := dump.Print(h)
		if g, line, why := dump.Parse(s); !same(g, h) || line != 0 || why != api.OK || no != api.OK {
			t.Errorf("heap %d: line %d, error %d", i, line, why)
		}
	}
}

// TestGreatestWords: the text of a heap is read again, however great its words are.
func TestGreatestWords(t *testing.T) {
	for _, h := range []api.Heap{sample.FullPages(), sample.FullSpans()} {
		for _, o := range sample.Objects(h) {
			h.Arena.Words[o.Addr] = sample.Header(o.N, 0)
			for i := range o.Fields {
				h.Arena.Words[o.Addr+1+uint64(i)] = 1<<64 - 1
			}
		}
		s, no := dump.Print(h)
		if g, line, why := dump.Parse(s); !same(g, h) || line != 0 || why != api.OK || no != api.OK {
			t.Errorf("%d bytes: line %d, error %d", len(s), line, why)
		}
	}
}

// TestBackAndThere: what is read of any text is a valid heap, and its own text is that text with the lines in order.
func TestBackAndThere(t *testing.T) {
	p := sample.Picks(305)
	read := 0
	for range 3000 {
		lines := linesOf(sample.Web(&p, p.Below(6)))
		for range p.Below(3) {
			lines = shuffled(&p, lines)
		}
		h, _, why := dump.Parse(text(lines...))
		if why != api.OK {
			continue
		}
		read++
		s, no := dump.Print(h)
		if heap.Check(h) != api.OK || no != api.OK || s != printed(h) {
			t.Fatal(h, no)
		}
		if g, _, why := dump.Parse(s); !same(g, h) || why != api.OK {
			t.Fatal(s, why)
		}
	}
	if read < 500 {
		t.Error(read)
	}
}

// TestObjectsOfText: the lines of Object are lines of the text.
func TestObjectsOfText(t *testing.T) {
	for i, h := range heaps()[:60] {
		s, _ := dump.Print(h)
		addrs, _ := heap.Objects(h)
		if len(addrs) > 100 {
			addrs = addrs[:100]
		}
		for _, addr := range addrs {
			line, why := dump.Object(h, addr)
			if g, _, no := dump.Parse(s); no != api.OK || why != api.OK || objectLine(g, int(addr)) != line {
				t.Errorf("heap %d, %d: %q, error %d", i, addr, line, why)
			}
		}
	}
}

// 30.6

// TestOneMore: the text has one line more than there are objects and spans, be they current, Swept or not.
func TestOneMore(t *testing.T) {
	for i, h := range heaps() {
		want := 1 + len(h.Spans)
		for _, s := range h.Spans {
			for slot := range s.Alloc.N {
				if bit(s.Alloc, slot) {
					want++
				}
			}
		}
		s, _ := dump.Print(h)
		feeds := 0
		for k := range len(s) {
			if s[k] == '\n' {
				feeds++
			}
		}
		if n, why := dump.Lines(h); n != want || n != feeds || why != api.OK {
			t.Errorf("heap %d: %d lines, %d line feeds, error %d; want %d", i, n, feeds, why, want)
		}
	}
}
