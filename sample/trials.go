package sample

import (
	"maps"
	"slices"
	"strconv"
)

// Trial tries what the calls of a package, each of which makes an answer of an argument, do with memory.
type Trial[A, R any] struct {
	Calls     map[string]func(a A) R
	Arguments []A
	// Roomy returns a copy of an argument with memory behind its lists, and a function that reports whether what lies there is as it was.
	Roomy func(a A) (A, func() bool)
	// SpoilsOf and Spoils return functions each of which changes one list, and all that lies behind its end.
	SpoilsOf func(a A) []func()
	Spoils   func(r R) []func()
	// Same and Like report whether two values are alike, and Twin returns a copy with memory of its own.
	Same func(a, b A) bool
	Like func(r, s R) bool
	Twin func(r R) R
}

// Memory tells of calls that change their arguments, keep or answer the memory of these, or answer the same memory twice.
func (t Trial[A, R]) Memory() []string {
	return t.faults(t.Arguments, t.memory)
}

// Lists tells of calls that answer lists that share memory, whether or not those of their arguments do.
func (t Trial[A, R]) Lists(woven ...A) []string {
	return t.faults(slices.Concat(t.Arguments, woven), t.lists)
}

// Again tells of calls whose answers hang on what came before, or on the room behind their arguments.
func (t Trial[A, R]) Again() []string {
	return t.faults(t.Arguments, t.again)
}

// faults returns what a check of each call with each argument says.
func (t Trial[A, R]) faults(arguments []A, check func(call func(a A) R, start A) []string) []string {
	var out []string
	for _, name := range slices.Sorted(maps.Keys(t.Calls)) {
		for i, start := range arguments {
			for _, fault := range check(t.Calls[name], start) {
				out = append(out, name+", argument "+strconv.Itoa(i)+": "+fault)
			}
		}
	}
	return out
}

func (t Trial[A, R]) memory(call func(a A) R, start A) []string {
	var out []string
	tell := func(right bool, fault string) {
		if !right {
			out = append(out, fault)
		}
	}
	var nothing R
	a, rest := t.Roomy(start)
	first := call(a)
	tell(t.Same(a, start) && rest(), "the argument changes")
	second := call(a)
	tell(!t.Like(second, nothing), "there is no answer")
	kept := t.Twin(second)
	spoilAll(t.Spoils(first))
	tell(t.Same(a, start) && rest(), "the answer has memory of the argument")
	tell(t.Like(second, kept), "two answers have the same memory")
	spoilAll(t.SpoilsOf(a))
	tell(t.Like(second, kept), "the memory of the argument is kept")
	return out
}

func spoilAll(spoils []func()) {
	for _, spoil := range spoils {
		spoil()
	}
}

func (t Trial[A, R]) lists(call func(a A) R, start A) []string {
	var out []string
	for k := range t.Spoils(call(start)) {
		got := call(start)
		apart := t.Twin(got)
		t.Spoils(got)[k]()
		t.Spoils(apart)[k]()
		if !t.Like(got, apart) {
			out = append(out, "list "+strconv.Itoa(k)+" shares memory with another one")
		}
	}
	return out
}

func (t Trial[A, R]) again(call func(a A) R, start A) []string {
	want := call(start)
	a, _ := t.Roomy(start)
	if !t.Like(call(a), want) {
		return []string{"another answer to a roomy argument"}
	}
	for range 5 {
		if !t.Like(call(start), want) {
			return []string{"another answer to the same argument"}
		}
	}
	return nil
}
