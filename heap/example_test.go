package heap_test

import (
	"slices"
	"testing"

	"besom/api"
	"besom/heap"
	"besom/sample"
)

// session is a heap that is changed call by call. What is refused leaves it as it was.
type session struct {
	*testing.T
	h api.Heap
}

func begin(t *testing.T, pages int) *session {
	h, why := heap.Make(pages)
	if why != api.OK {
		t.Fatal("Make:", why)
	}
	return &session{t, h}
}

func (s *session) next(what string, h api.Heap, why, want api.Errno) {
	s.Helper()
	if why != want || why != api.OK && !same(h, s.h) {
		s.Fatalf("%s: error %d; want %d", what, why, want)
	}
	s.h = h
}

func (s *session) alloc(n int, mask uint64, at uint64, want api.Errno) {
	s.Helper()
	h, addr, why := heap.New(s.h, api.Shape{N: n, Mask: mask}, false)
	s.next("New", h, why, want)
	if addr != at {
		s.Fatalf("New of %d fields: %d; want %d", n, addr, at)
	}
}

func (s *session) store(addr uint64, field int, w uint64, ref bool, want api.Errno) {
	s.Helper()
	h, why := heap.Store(s.h, addr, field, w, ref)
	s.next("Store", h, why, want)
}

func (s *session) mark(addr uint64, before bool) {
	s.Helper()
	h, was, why := heap.Mark(s.h, addr)
	s.next("Mark", h, why, api.OK)
	if was != before {
		s.Fatalf("Mark of %d: %v", addr, was)
	}
}

func (s *session) turn(want api.Errno) {
	s.Helper()
	h, why := heap.Turn(s.h)
	s.next("Turn", h, why, want)
}

func (s *session) clean(first int, want api.Errno, gone ...uint64) {
	s.Helper()
	h, freed, why := heap.Clean(s.h, first)
	s.next("Clean", h, why, want)
	if !slices.Equal(freed, gone) {
		s.Fatalf("Clean of %d: %d; want %d", first, freed, gone)
	}
}

func (s *session) objects(want ...uint64) {
	s.Helper()
	if l, why := heap.Objects(s.h); !slices.Equal(l, want) || why != api.OK {
		s.Fatalf("Objects: %d, error %d; want %d", l, why, want)
	}
}

func (s *session) at(addr uint64, n int, mask uint64, want api.Errno) {
	s.Helper()
	if shape, why := heap.At(s.h, addr); shape != (api.Shape{N: n, Mask: mask}) || why != want {
		s.Fatalf("At of %d: %v, error %d", addr, shape, why)
	}
}

func (s *session) load(addr uint64, field int, w uint64, ref bool, want api.Errno) {
	s.Helper()
	if got, is, why := heap.Load(s.h, addr, field); got != w || is != ref || why != want {
		s.Fatalf("Load of %d, %d: %d, %v, error %d", addr, field, got, is, why)
	}
}

// abc begins with the three objects of the chapter's examples.
func abc(t *testing.T) *session {
	s := begin(t, 6)
	s.alloc(3, 5, 16, api.OK)
	s.alloc(3, 0, 20, api.OK)
	s.alloc(20, 1, 32, api.OK)
	return s
}

// TestChapterExamples are those of 7.2 and 7.3, one after the other.
func TestChapterExamples(t *testing.T) {
	s := abc(t)
	if !same(s.h, sample.ThreeObjects()) {
		t.Fatal("three objects:", s.h)
	}
	s.alloc(48, 0, 0, api.ErrFull)
	s.at(16, 3, 5, api.OK)
	s.store(16, 0, 20, true, api.OK)
	s.load(16, 0, 20, true, api.OK)
	s.store(16, 1, 99, false, api.OK)
	s.load(16, 1, 99, false, api.OK)
	s.store(16, 1, 20, true, api.ErrType)
	s.store(16, 0, 7, false, api.ErrType)
	s.store(16, 0, 17, true, api.ErrDead)
	s.store(16, 3, 0, true, api.ErrField)
	s.store(0, 0, 0, true, api.ErrNil)
	s.store(24, 0, 0, true, api.ErrDead)
	s.mark(16, false)
	s.turn(api.ErrState)
	s.mark(20, false)
	s.mark(20, true)
	s.turn(api.OK)
	s.at(32, 0, 0, api.ErrDead)
	s.clean(2, api.OK, 32)
	if len(s.h.Spans) != 1 {
		t.Fatal("spans:", len(s.h.Spans))
	}
	s.clean(1, api.OK)
	s.clean(1, api.ErrState)
	s.objects(16, 20)
}

// TestTurnWithoutMarks: where nothing is marked, Turn succeeds, and nothing is current then.
func TestTurnWithoutMarks(t *testing.T) {
	s := abc(t)
	s.store(16, 0, 20, true, api.OK)
	s.turn(api.OK)
	s.objects()
	s.at(16, 0, 0, api.ErrDead)
	s.clean(1, api.OK, 16, 20)
	s.clean(2, api.OK, 32)
	if !same(s.h, sample.Heap(6, nil)) {
		t.Error(s.h)
	}
}

// TestFourPages is the example at the end of the chapter.
func TestFourPages(t *testing.T) {
	s := begin(t, 4)
	s.alloc(2, 0, 16, api.OK)
	s.alloc(1, 0, 32, api.OK)
}

// TestExamplesOfTheWhole: an object of three words occupies a slot of four, one of seventeen words two pages; after Turn, an object that is not marked is not one any more.
func TestExamplesOfTheWhole(t *testing.T) {
	s := begin(t, 6)
	s.alloc(2, 0, 16, api.OK)
	s.alloc(2, 0, 20, api.OK)
	s.alloc(16, 0, 32, api.OK)
	s.alloc(16, 0, 64, api.OK)
	s.alloc(16, 0, 0, api.ErrFull)
	s.mark(20, false)
	s.turn(api.OK)
	s.objects(20)
	for _, addr := range []uint64{16, 32, 64} {
		s.at(addr, 0, 0, api.ErrDead)
	}
}
