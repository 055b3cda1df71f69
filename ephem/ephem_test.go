package ephem_test

import (
	"math"
	"slices"
	"testing"

	"besom/api"
	"besom/ephem"
	"besom/sample"
)

// TestSampleIsValid: the tables of the sample are what they are said to be, by the chapter's words.
func TestSampleIsValid(t *testing.T) {
	for i, e := range sample.Ephems() {
		if !valid(e) {
			t.Errorf("table %d is not valid", i)
		}
	}
	for i, e := range sample.BadEphems() {
		if valid(e) {
			t.Errorf("invalid table %d is valid", i)
		}
	}
}

// 10.1

func TestCheck(t *testing.T) {
	for i, e := range sample.Ephems() {
		if why := ephem.Check(e); why != api.OK {
			t.Errorf("Check of table %d: error %d", i, why)
		}
	}
	for i, e := range sample.BadEphems() {
		if why := ephem.Check(e); why != api.ErrForm {
			t.Errorf("Check of invalid table %d: error %d", i, why)
		}
	}
}

// TestCheckOne: whatever one slot of a table is replaced by, Check answers what the chapter's words say.
func TestCheckOne(t *testing.T) {
	for _, e := range sample.Ephems() {
		e = sample.CopyEphem(e)
		others := append(keys(), 0)
		for i, was := range e.Slots {
			for _, state := range []api.EphState{api.EphFree, api.EphUsed, api.EphGone, api.EphCount, 4, 128, 255} {
				for _, key := range others {
					for _, val := range []uint64{0, math.MaxUint64} {
						e.Slots[i] = api.EphSlot{State: state, Key: key, Val: val}
						if why := ephem.Check(e); (why == api.OK) != valid(e) || why != api.OK && why != api.ErrForm {
							t.Fatalf("Check of %v: error %d", e, why)
						}
					}
				}
			}
			e.Slots[i] = was
		}
	}
}

// TestCheckSmall: Check answers what the chapter's words say of all tables of eight slots with up to four used or deleted ones, the keys of which are at home in the last slot and in the first one.
func TestCheckSmall(t *testing.T) {
	last, first := sample.KeysAt(7, 8, 1, 2), sample.KeysAt(0, 8, 1, 1)
	kinds := []api.EphSlot{{}, gone(), used(last[0], 1), used(last[1], 0), used(first[0], 2)}
	for code := range 5 * 5 * 5 * 5 {
		for _, at := range [][4]int{{7, 0, 1, 2}, {6, 7, 0, 1}, {0, 1, 2, 3}} {
			e := sample.Ephem(8)
			rest := code
			for _, i := range at {
				e.Slots[i] = kinds[rest%5]
				rest /= 5
			}
			if why := ephem.Check(e); (why == api.OK) != valid(e) {
				t.Fatalf("Check of %v: error %d", e, why)
			}
		}
	}
}

func TestInvalidComesFirst(t *testing.T) {
	for i, e := range sample.BadEphems() {
		refused := func(name string, zero bool, why api.Errno) {
			t.Helper()
			if !zero || why != api.ErrForm {
				t.Errorf("%s of invalid table %d: error %d", name, i, why)
			}
		}
		for _, key := range keys() {
			val, why := ephem.Get(e, key)
			refused("Get", val == 0, why)
			for _, val := range vals() {
				out, why := ephem.Put(e, key, val)
				refused("Put", len(out.Slots) == 0, why)
			}
		}
		for _, l := range lists() {
			out, n, why := ephem.Del(e, l...)
			refused("Del", len(out.Slots) == 0 && n == 0, why)
		}
		ks, vs, why := ephem.All(e)
		refused("All", len(ks) == 0 && len(vs) == 0, why)
	}
}

func TestGet(t *testing.T) {
	for i, e := range sample.Ephems() {
		in, _ := pairs(e)
		for _, key := range append(keys(), in...) {
			want, no := got(e, key)
			if val, why := ephem.Get(e, key); val != want || why != no {
				t.Errorf("Get in table %d, %d: %d, error %d; want %d, %d", i, key, val, why, want, no)
			}
		}
	}
}

// TestHome: homes that are written out, those of other keys by the chapter's words, and numbers of slots that are not right.
func TestHome(t *testing.T) {
	for _, x := range []struct {
		key  uint64
		want [4]int
	}{
		{0, [4]int{0, 0, 0, 0}}, {1, [4]int{4, 9, 19, 39}}, {2, [4]int{1, 3, 7, 15}}, {3, [4]int{6, 13, 27, 54}}, {16, [4]int{7, 14, 28, 56}},
		{1 << 32, [4]int{3, 7, 15, 31}}, {1 << 63, [4]int{4, 8, 16, 32}}, {math.MaxUint64, [4]int{3, 6, 12, 24}}, {12345678901234567890, [4]int{4, 8, 16, 32}},
	} {
		for i, n := range []int{8, 16, 32, 64} {
			if at, why := ephem.Home(x.key, n); at != x.want[i] || why != api.OK {
				t.Errorf("Home of %d in %d: %d, error %d; want %d", x.key, n, at, why, x.want[i])
			}
		}
	}
	sizes := append(sample.Ints(), 127, 128, 256, 512, 1<<32+8, 1<<32+64, math.MinInt+8)
	for n := -70; n <= 70; n++ {
		sizes = append(sizes, n)
	}
	for _, n := range sizes {
		for _, key := range keys() {
			want, no := 0, api.ErrRange
			if slices.Contains([]int{8, 16, 32, 64}, n) {
				want, no = sample.Home(key, n), api.OK
			}
			if at, why := ephem.Home(key, n); at != want || why != no {
				t.Errorf("Home of %d in %d: %d, error %d; want %d, %d", key, n, at, why, want, no)
			}
		}
	}
}

// 10.2

func TestPut(t *testing.T) {
	for i, e := range sample.Ephems() {
		in, _ := pairs(e)
		for _, key := range append(keys(), in...) {
			for _, val := range vals() {
				want, no := filled(e, key, val)
				if out, why := ephem.Put(e, key, val); !same(out, want) || why != no {
					t.Fatalf("Put in table %d, %d, %d: %v, error %d; want %v, %d", i, key, val, out, why, want, no)
				}
			}
		}
	}
}

// TestPutReuses: a new key takes the first slot that is not used, be it deleted or free; a key that is behind a deleted slot stays there.
func TestPutReuses(t *testing.T) {
	l := sample.KeysAt(7, 8, 1, 4)
	e := api.Ephem{Slots: []api.EphSlot{gone(), used(l[1], 5), 7: used(l[0], 4)}}
	for _, x := range []struct {
		key, val uint64
		want     []api.EphSlot
	}{
		{l[1], 6, []api.EphSlot{gone(), used(l[1], 6), 7: used(l[0], 4)}},
		{l[2], 6, []api.EphSlot{used(l[2], 6), used(l[1], 5), 7: used(l[0], 4)}},
		{l[0], 0, []api.EphSlot{gone(), used(l[1], 5), 7: used(l[0], 0)}},
	} {
		if out, why := ephem.Put(e, x.key, x.val); !slices.Equal(out.Slots, x.want) || why != api.OK {
			t.Errorf("Put of %d: %v, error %d; want %v", x.key, out, why, x.want)
		}
	}
}

// TestPutQuarter: a table with just enough free slots takes a new key in a deleted slot, and is built anew if the key needs a free one.
func TestPutQuarter(t *testing.T) {
	l := sample.KeysAt(2, 8, 1, 8)
	e := sample.Without(sample.Ephem(8, l[:6]...), l[0], l[3])
	if out, why := ephem.Put(e, l[6], 1); out.Slots[2] != used(l[6], 1) || len(out.Slots) != 8 || count(out, api.EphGone) != 1 || why != api.OK {
		t.Error("Put in a deleted slot:", out, why)
	}
	free := sample.KeysAt(0, 8, 1, 1)[0]
	out, why := ephem.Put(e, free, 1)
	if !same(out, anew(16, append(slices.Clone(e.Slots), used(free, 1)))) || count(out, api.EphGone) != 0 || why != api.OK {
		t.Error("Put in a free slot:", out, why)
	}
	few := sample.Without(e, l[1], l[2], l[4])
	if out, why = ephem.Put(few, free, 1); len(out.Slots) != 8 || count(out, api.EphGone) != 0 || count(out, api.EphUsed) != 2 || why != api.OK {
		t.Error("Put of the second key in a table of deleted ones:", out, why)
	}
}

// TestPutSmaller: a table that is built anew may have fewer slots than before; its keys are inserted in the order of the old slots, and the new one last.
func TestPutSmaller(t *testing.T) {
	l := sample.KeysAt(31, 32, 1, 24)
	e := sample.Without(sample.Ephem(32, l...), l[:21]...)
	key := sample.KeysAt(25, 32, 1, 1)[0]
	want := sample.Ephem(8)
	for _, k := range l[21:] {
		sample.Insert(want.Slots, k, 10*k)
	}
	sample.Insert(want.Slots, key, 3)
	if out, why := ephem.Put(e, key, 3); !same(out, want) || why != api.OK {
		t.Errorf("Put: %v, error %d; want %v", out, why, want)
	}
}

// TestPutTillFull: the sizes that a table goes through till there is no greater one; then only what needs a free slot is refused.
func TestPutTillFull(t *testing.T) {
	var e api.Ephem
	for n := range uint64(48) {
		out, why := ephem.Put(e, n+1, n)
		want := 8
		for want*3 < int(n+1)*4 {
			want *= 2
		}
		if len(out.Slots) != want || why != api.OK {
			t.Fatalf("Put number %d: %d slots, error %d; want %d", n+1, len(out.Slots), why, want)
		}
		e = out
	}
	for _, x := range []struct {
		key  uint64
		want api.Errno
	}{{49, api.ErrFull}, {math.MaxUint64, api.ErrFull}, {0, api.ErrNil}} {
		if out, why := ephem.Put(e, x.key, 7); !same(out, e) || why != x.want {
			t.Errorf("Put of %d to 48 keys: error %d; want %d", x.key, why, x.want)
		}
	}
	if out, why := ephem.Put(e, 48, 7); count(out, api.EphUsed) != 48 || why != api.OK {
		t.Error("Put of a key that is in:", out, why)
	}
	for left := 47; left >= 0; left-- {
		e, _, _ = ephem.Del(e, uint64(left+1))
		for key := range uint64(200) {
			want, no := filled(e, key+100, 7)
			if out, why := ephem.Put(e, key+100, 7); !same(out, want) || why != no {
				t.Fatalf("Put of %d to %d keys: error %d; want %d", key+100, left, why, no)
			}
		}
	}
}

// 10.3

func TestDel(t *testing.T) {
	for i, e := range sample.Ephems() {
		in, _ := pairs(e)
		for k, l := range append(lists(), in, append(slices.Clone(in), in...)) {
			want, n := deleted(e, l...)
			if out, m, why := ephem.Del(e, l...); !same(out, want) || m != n || why != api.OK {
				t.Errorf("Del in table %d, list %d: %v, %d, error %d; want %v, %d", i, k, out, m, why, want, n)
			}
		}
		for _, key := range in {
			want, _ := deleted(e, key)
			if out, m, why := ephem.Del(e, key); !same(out, want) || m != 1 || why != api.OK {
				t.Errorf("Del in table %d, %d: %v, %d, error %d", i, key, out, m, why)
			}
		}
	}
}

func TestAll(t *testing.T) {
	for i, e := range sample.Ephems() {
		ks, vs := pairs(e)
		if keys, vals, why := ephem.All(e); !slices.Equal(keys, ks) || !slices.Equal(vals, vs) || why != api.OK {
			t.Errorf("All of table %d: %d, %d, error %d; want %d, %d", i, keys, vals, why, ks, vs)
		}
	}
}

// Examples

func TestChapterExamples(t *testing.T) {
	if at, why := ephem.Home(1, 64); at != 39 || why != api.OK {
		t.Error("Home:", at, why)
	}
	if at, why := ephem.Home(1, 12); at != 0 || why != api.ErrRange {
		t.Error("Home in 12:", at, why)
	}
	var e api.Ephem
	put := func(key, val uint64, slots int) {
		t.Helper()
		out, why := ephem.Put(e, key, val)
		if len(out.Slots) != slots || why != api.OK {
			t.Error("Put:", key, len(out.Slots), why)
		}
		e = out
	}
	for key := range uint64(6) {
		put(key+1, 10*(key+1), 8)
	}
	put(3, 33, 8)
	put(7, 70, 16)
	if val, why := ephem.Get(e, 3); val != 33 || why != api.OK {
		t.Error("Get of 3:", val, why)
	}
	e, n, why := ephem.Del(e, 2, 2, 99)
	if n != 1 || why != api.OK {
		t.Error("Del:", n, why)
	}
	if val, why := ephem.Get(e, 2); val != 0 || why != api.ErrNone {
		t.Error("Get of 2:", val, why)
	}
	keys, vals, why := ephem.All(e)
	if !slices.Equal(keys, []uint64{1, 3, 4, 5, 6, 7}) || !slices.Equal(vals, []uint64{10, 33, 40, 50, 60, 70}) || why != api.OK {
		t.Error("All:", keys, vals, why)
	}
}

// TestTwoKeys is the example at the end of the chapter.
func TestTwoKeys(t *testing.T) {
	var e api.Ephem
	for _, key := range []uint64{1, 2, 1} {
		out, why := ephem.Put(e, key, key)
		if why != api.OK {
			t.Error("Put:", key, why)
		}
		e = out
	}
	if keys, _, why := ephem.All(e); !slices.Equal(keys, []uint64{1, 2}) || len(e.Slots) != 8 || why != api.OK {
		t.Error(e, why)
	}
}
