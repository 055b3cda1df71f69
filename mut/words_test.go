package mut_test

import (
	"slices"

	"besom/api"
	"besom/ephem"
	"besom/reach"
	"besom/sample"
	"besom/sched"
	"besom/sweep"
)

// What the chapter's words say of operations, written down once more, and without regard for speed.

var same = sample.SameRuntimes

// refused is why an operation is refused whatever the registers contain.
func refused(r api.Runtime, who int, op api.Op) api.Errno {
	none := func(reg int) bool { return reg < 0 || reg > 3 }
	switch {
	case who < 0 || who >= len(r.Mutators):
		return api.ErrTask
	case !slices.Contains(sample.OpKinds(), op.Kind):
		return api.ErrForm
	case op.Kind != api.OpGc && none(op.A), sample.HasTwo(op.Kind) && none(op.B):
		return api.ErrRange
	}
	return api.OK
}

// done is what Do answers.
func done(r api.Runtime, who int, op api.Op) (api.Runtime, api.Reg, api.Errno) {
	if why := refused(r, who, op); why != api.OK {
		return r, api.Reg{}, why
	}
	out := sample.CopyRuntime(r)
	if op.Kind == api.OpGc {
		g, why := reach.Start(r.Gc)
		out.Gc = g
		return out, api.Reg{}, why
	}
	var b api.Reg
	if sample.HasTwo(op.Kind) {
		b = out.Mutators[who].Regs[op.B]
	}
	reg, why := effects()[op.Kind](&out, out.Mutators[who].Regs[op.A], b, op)
	if why != api.OK {
		return r, api.Reg{}, why
	}
	out.Mutators[who].Regs[op.A] = reg
	return out, reg, api.OK
}

// effect makes of a runtime what an operation makes of it, and answers what register A contains then. A and B are what the registers contain before.
type effect func(r *api.Runtime, a, b api.Reg, op api.Op) (api.Reg, api.Errno)

func effects() map[api.OpKind]effect {
	return map[api.OpKind]effect{
		api.OpNew:     made,
		api.OpLoad:    loaded,
		api.OpStore:   stored,
		api.OpMove:    func(r *api.Runtime, a, b api.Reg, op api.Op) (api.Reg, api.Errno) { return b, api.OK },
		api.OpConst:   func(r *api.Runtime, a, b api.Reg, op api.Op) (api.Reg, api.Errno) { return sample.Num(op.W), api.OK },
		api.OpNil:     func(r *api.Runtime, a, b api.Reg, op api.Op) (api.Reg, api.Errno) { return sample.Ref(0), api.OK },
		api.OpWeak:    handled,
		api.OpUpgrade: upgraded,
		api.OpPut:     put,
		api.OpGet:     got,
		api.OpDel:     deleted,
		api.OpFinal: func(r *api.Runtime, a, b api.Reg, op api.Op) (api.Reg, api.Errno) {
			return attached(r, a, sample.Final(a.W, op.W))
		},
		api.OpClean: func(r *api.Runtime, a, b api.Reg, op api.Op) (api.Reg, api.Errno) {
			return attached(r, a, sample.Cleanup(a.W, op.W))
		},
	}
}

// noObject is the error of a register in which no object is.
func noObject(reg api.Reg) api.Errno {
	switch {
	case !reg.Ref:
		return api.ErrType
	case reg.W == 0:
		return api.ErrNil
	}
	return api.OK
}

// touch shades objects with worker 0, if the marker is On.
func touch(r *api.Runtime, addrs ...uint64) {
	if r.Gc.Marker.On {
		r.Gc.Marker = sample.Shaded(r.Gc.Marker, addrs...)
	}
}

// forced is what a forced collection makes of a runtime, if it does not fail.
func forced(r api.Runtime) (api.Runtime, bool) {
	for r.Gc.Phase != api.PhaseIdle {
		l, _ := sched.Tasks(r)
		l = slices.DeleteFunc(l, func(t api.Task) bool { return t.Kind == api.TaskStart || t.Kind == api.TaskRun })
		if len(l) == 0 {
			return r, false
		}
		r, _, _ = sched.Do(r, l[0])
	}
	r, _, why := sched.Cycle(r)
	return r, why == api.OK
}

func made(r *api.Runtime, a, b api.Reg, op api.Op) (api.Reg, api.Errno) {
	g, addr, why := sweep.Alloc(r.Gc, op.Shape)
	if why == api.ErrFull {
		collected, ok := forced(*r)
		if !ok {
			return api.Reg{}, api.ErrFull
		}
		*r = collected
		g, addr, why = sweep.Alloc(r.Gc, op.Shape)
	}
	r.Gc = g
	return sample.Ref(addr), why
}

// find is the object at an address.
func find(r *api.Runtime, addr uint64) sample.Object {
	l := sample.Objects(r.Gc.Marker.Heap)
	return l[slices.IndexFunc(l, func(o sample.Object) bool { return o.Addr == addr })]
}

func loaded(r *api.Runtime, a, b api.Reg, op api.Op) (api.Reg, api.Errno) {
	if why := noObject(b); why != api.OK {
		return api.Reg{}, why
	}
	o := find(r, b.W)
	if op.Field < 0 || op.Field >= o.N {
		return api.Reg{}, api.ErrField
	}
	if o.Mask>>op.Field&1 == 0 {
		return sample.Num(o.Fields[op.Field]), api.OK
	}
	touch(r, o.Fields[op.Field])
	return sample.Ref(o.Fields[op.Field]), api.OK
}

func stored(r *api.Runtime, a, b api.Reg, op api.Op) (api.Reg, api.Errno) {
	if why := noObject(a); why != api.OK {
		return api.Reg{}, why
	}
	o := find(r, a.W)
	if op.Field < 0 || op.Field >= o.N {
		return api.Reg{}, api.ErrField
	}
	if b.Ref != (o.Mask>>op.Field&1 == 1) {
		return api.Reg{}, api.ErrType
	}
	if b.Ref {
		touch(r, o.Fields[op.Field], b.W)
	}
	r.Gc.Marker.Heap.Arena.Words[a.W+1+uint64(op.Field)] = b.W
	return a, api.OK
}

func handled(r *api.Runtime, a, b api.Reg, op api.Op) (api.Reg, api.Errno) {
	if why := noObject(b); why != api.OK {
		return api.Reg{}, why
	}
	at := slices.Index(r.Gc.Weak, b.W)
	if at < 0 {
		if at = len(r.Gc.Weak); at == 64 {
			return api.Reg{}, api.ErrFull
		}
		r.Gc.Weak = append(r.Gc.Weak, b.W)
	}
	touch(r, b.W)
	return sample.Num(uint64(at + 1)), api.OK
}

func upgraded(r *api.Runtime, a, b api.Reg, op api.Op) (api.Reg, api.Errno) {
	if b.Ref {
		return api.Reg{}, api.ErrType
	}
	for i, addr := range r.Gc.Weak {
		if uint64(i+1) == b.W {
			touch(r, addr)
			return sample.Ref(addr), api.OK
		}
	}
	return api.Reg{}, api.ErrNone
}

func put(r *api.Runtime, a, b api.Reg, op api.Op) (api.Reg, api.Errno) {
	if why := noObject(a); why != api.OK {
		return api.Reg{}, why
	}
	if !b.Ref {
		return api.Reg{}, api.ErrType
	}
	table, why := ephem.Put(r.Gc.Table, a.W, b.W)
	r.Gc.Table = table
	if why == api.OK {
		touch(r, a.W, b.W)
	}
	return a, why
}

func got(r *api.Runtime, a, b api.Reg, op api.Op) (api.Reg, api.Errno) {
	if why := noObject(b); why != api.OK {
		return api.Reg{}, why
	}
	for _, s := range r.Gc.Table.Slots {
		if s.State == api.EphUsed && s.Key == b.W {
			touch(r, s.Val)
			return sample.Ref(s.Val), api.OK
		}
	}
	return api.Reg{}, api.ErrNone
}

func deleted(r *api.Runtime, a, b api.Reg, op api.Op) (api.Reg, api.Errno) {
	if why := noObject(a); why != api.OK {
		return api.Reg{}, why
	}
	for i, s := range r.Gc.Table.Slots {
		if s.State == api.EphUsed && s.Key == a.W {
			r.Gc.Table.Slots[i] = api.EphSlot{State: api.EphGone}
			return a, api.OK
		}
	}
	return api.Reg{}, api.ErrNone
}

func attached(r *api.Runtime, a api.Reg, s api.Special) (api.Reg, api.Errno) {
	if why := noObject(a); why != api.OK {
		return api.Reg{}, why
	}
	at := 0
	for i, other := range r.Gc.Specials {
		if other.Addr <= s.Addr {
			at = i + 1
		}
	}
	twice := s.Kind == api.SpecialFinal && slices.ContainsFunc(r.Gc.Specials, func(other api.Special) bool {
		return other.Addr == s.Addr && other.Kind == s.Kind
	})
	switch {
	case len(r.Gc.Queue)+len(r.Gc.Specials) >= 256:
		return api.Reg{}, api.ErrFull
	case twice:
		return api.Reg{}, api.ErrTwice
	case len(r.Gc.Specials) == 64:
		return api.Reg{}, api.ErrFull
	}
	r.Gc.Specials = slices.Insert(r.Gc.Specials, at, s)
	touch(r, s.Addr)
	return a, api.OK
}
