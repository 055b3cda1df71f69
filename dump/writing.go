package dump

import (
	"strconv"
	"strings"

	"besom/api"
	"besom/bits"
	"besom/plain"
	"besom/span"
)

// writing is a valid heap that is written.
type writing struct {
	api.Heap
}

// text returns the lines, each with a line feed behind it.
func (w writing) text() string {
	return strings.Join(append(w.lines(), ""), lineFeed)
}

// lines returns the lines of the text, without their line feeds.
func (w writing) lines() []string {
	l := []string{heapName + blank + strconv.Itoa(w.Pages.Used.N)}
	for at, s := range w.Spans {
		l = append(l, w.span(at))
		for slot, why := bits.First(s.Alloc, 0, true); why == api.OK; slot, why = bits.First(s.Alloc, slot+1, true) {
			l = append(l, w.object(at, slot))
		}
	}
	return l
}

// span returns the line of the span that has the index at.
func (w writing) span(at int) string {
	s := w.Spans[at]
	e := entry{ahead: []uint64{uint64(s.First), uint64(s.Pages), uint64(s.Size)}, is: s.Swept}
	return e.line(spanName, swept, old)
}

// object returns the line of the object in a slot of that span.
func (w writing) object(at, slot int) string {
	s := w.Spans[at]
	addr, _ := span.Addr(s, slot)
	marked, _ := bits.Get(s.Mark, slot)
	shape, fields := plain.Object(w.Heap, addr)
	e := entry{ahead: []uint64{addr, uint64(shape.N), shape.Mask}, is: marked, rest: fields}
	return e.line(objectName, black, white)
}
