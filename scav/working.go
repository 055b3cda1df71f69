package scav

import (
	"cmp"
	"slices"

	"besom/api"
	"besom/bits"
	"besom/heap"
	"besom/plain"
)

// working is a valid value at work.
type working struct {
	api.Scav
}

// view returns a valid value. It shares the memory of s.
func view(s api.Scav) (working, api.Errno) {
	w := working{s}
	if heap.Check(w.Heap) != api.OK {
		return working{}, api.ErrForm
	}
	missing, why := w.missing()
	if why != api.OK || count(missing) > 0 {
		return working{}, api.ErrForm
	}
	return w, api.OK
}

// twin returns a copy with memory of its own.
func (w working) twin() working {
	w.Heap = plain.Heap(w.Heap)
	w.Out.W = slices.Clone(w.Out.W)
	return w
}

// missing are the pages that are in use and Out. It returns ErrForm if Out is not valid, or has not one bit for each page.
func (w working) missing() (api.Bits, api.Errno) {
	return bits.Both(w.Out, w.Heap.Pages.Used)
}

func count(b api.Bits) int {
	n, _ := bits.Count(b)
	return n
}

func (w working) used() int {
	return count(w.Heap.Pages.Used)
}

func (w working) present() int {
	return w.Out.N - count(w.Out)
}

// spare reports whether a page is free and present.
func (w working) spare(page int) bool {
	used, _ := bits.Get(w.Heap.Pages.Used, page)
	out, _ := bits.Get(w.Out, page)
	return !used && !out
}

// recall takes back the pages that are in use.
func (w *working) recall() {
	missing, _ := w.missing()
	for page, why := bits.First(missing, 0, true); why == api.OK; page, why = bits.First(missing, page+1, true) {
		w.Out, _ = bits.Put(w.Out, page, false)
		w.Faults++
	}
}

// release returns the n last spare pages, or all, and their number.
func (w *working) release(n int) int {
	gone := 0
	for page := w.Out.N - 1; page >= 0 && gone < n; page-- {
		if w.spare(page) {
			w.Out, _ = bits.Put(w.Out, page, true)
			gone++
		}
	}
	w.Gone += uint64(gone)
	return gone
}

// runs returns the lengths of all runs of free pages, the longest ones first.
func (w working) runs() []int {
	used := w.Heap.Pages.Used
	var lengths []int
	end := 0
	for first, why := bits.First(used, 0, false); why == api.OK; first, why = bits.First(used, end, false) {
		end = w.runEnd(first)
		lengths = append(lengths, end-first)
	}
	slices.SortFunc(lengths, func(a, b int) int {
		return cmp.Compare(b, a)
	})
	return lengths
}

// runEnd returns the first page behind a free one that is in use, or the number of pages.
func (w working) runEnd(first int) int {
	used := w.Heap.Pages.Used
	end, why := bits.First(used, first, true)
	if why != api.OK {
		return used.N
	}
	return end
}
