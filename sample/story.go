package sample

import (
	"slices"
	"strconv"

	"besom/api"
)

// Story is what happened in a runtime, told without addresses and collections: of it follows what is to be heard, and what is to be there.
type Story struct {
	regs    [][]Value
	things  []*Thing
	at      map[uint64]*Thing
	table   map[*Thing]*Thing
	handles []handle
	owned   map[uint64]*owned
	items   []*Thing
}

// Value is what a register or a field contains: a number, or a reference to a thing, or to nothing.
type Value struct {
	Ref   bool
	W     uint64
	Thing *Thing
}

// Thing is an object, which is the same one whatever else is at its address afterwards. It is lost if there was a time when nothing led to it.
type Thing struct {
	addr   uint64
	mask   uint64
	fields []Value
	lost   bool
}

// handle is a weak handle, which is gone once it refers to nothing.
type handle struct {
	thing *Thing
	gone  bool
}

// owned is a special.
type owned struct {
	kind  api.SpecialKind
	thing *Thing
	ran   bool
}

// NewStory returns the story of a new runtime with so many mutators.
func NewStory(mutators int) *Story {
	s := &Story{at: map[uint64]*Thing{}, table: map[*Thing]*Thing{}, owned: map[uint64]*owned{}}
	for range mutators {
		s.regs = append(s.regs, make([]Value, 4))
	}
	return s
}

// Tell goes on with a pick that was not refused. It returns what does not go with the story: what was heard, or what r has now. The tags of specials have to differ.
func (s *Story) Tell(p api.Pick, r api.Runtime, heard api.Heard) string {
	fault := ""
	switch {
	case p.Mutator:
		fault = s.operate(s.regs[p.Who], p.Op, heard.Reg)
	case p.Task.Kind == api.TaskRun:
		fault = s.run(heard.Ran, Addrs(r.Gc.Marker.Heap))
	}
	for _, check := range []func(r api.Runtime) string{s.registers, s.weak, s.queue, s.objects} {
		if fault == "" {
			fault = check(r)
		}
	}
	return fault
}

// Live returns the addresses of what registers and items lead to, in ascending order.
func (s *Story) Live() []uint64 {
	var out []uint64
	for x := range s.reachable() {
		out = append(out, x.addr)
	}
	slices.Sort(out)
	return out
}

// Ran returns how many specials there ever were, and how many of them were run.
func (s *Story) Ran() (all, ran int) {
	for _, x := range s.owned {
		if x.ran {
			ran++
		}
	}
	return len(s.owned), ran
}

// Due returns how many specials were not run, though nothing leads to their object.
func (s *Story) Due() int {
	live, n := s.reachable(), 0
	for _, x := range s.owned {
		if _, ok := live[x.thing]; !ok && !x.ran {
			n++
		}
	}
	return n
}

// Gone returns how many weak handles there are, and how many of them refer to nothing.
func (s *Story) Gone() (all, gone int) {
	for _, x := range s.handles {
		if x.gone {
			gone++
		}
	}
	return len(s.handles), gone
}

func reference(x *Thing) Value {
	return Value{Ref: true, Thing: x}
}

// reg returns what a register contains that has this value.
func (v Value) reg() api.Reg {
	switch {
	case !v.Ref:
		return Num(v.W)
	case v.Thing == nil:
		return Ref(0)
	}
	return Ref(v.Thing.addr)
}

// operate goes on with an operation.
func (s *Story) operate(regs []Value, op api.Op, heard api.Reg) string {
	if op.Kind == api.OpGc {
		if heard != (api.Reg{}) {
			return "a register is heard of the begin of a collection"
		}
		return ""
	}
	a, fault := s.effect(regs[op.A], regs[op.B], op, heard)
	if fault != "" {
		return fault
	}
	regs[op.A] = a
	if heard != a.reg() {
		return "register " + strconv.Itoa(op.A) + " has another value"
	}
	return ""
}

// effect tells of an operation with registers of these values, and returns the value of register A then.
func (s *Story) effect(a, b Value, op api.Op, heard api.Reg) (Value, string) {
	owner := a.Thing
	if HasTwo(op.Kind) && op.Kind != api.OpStore && op.Kind != api.OpPut {
		owner = b.Thing
	}
	switch op.Kind {
	case api.OpNew:
		return s.made(op.Shape, heard)
	case api.OpMove:
		return b, ""
	case api.OpConst:
		return Value{W: op.W}, ""
	case api.OpNil:
		return reference(nil), ""
	case api.OpUpgrade:
		return s.upgraded(b)
	}
	if owner == nil {
		return Value{}, "an operation without an object is not refused"
	}
	switch op.Kind {
	case api.OpLoad:
		return owner.fields[op.Field], ""
	case api.OpStore:
		owner.fields[op.Field] = b
	case api.OpWeak:
		return Value{W: s.handled(owner)}, ""
	case api.OpPut:
		s.table[owner] = b.Thing
	case api.OpGet:
		return s.got(owner)
	case api.OpDel:
		delete(s.table, owner)
	case api.OpFinal:
		s.owned[op.W] = &owned{kind: api.SpecialFinal, thing: owner}
	case api.OpClean:
		s.owned[op.W] = &owned{kind: api.SpecialClean, thing: owner}
	}
	return a, ""
}

// made tells of a new object. What was at its address has to be gone.
func (s *Story) made(shape api.Shape, heard api.Reg) (Value, string) {
	if !heard.Ref || heard.W == 0 {
		return Value{}, "a new object has no address"
	}
	x := &Thing{addr: heard.W, mask: shape.Mask}
	for i := range shape.N {
		x.fields = append(x.fields, Value{Ref: shape.Mask>>i&1 == 1})
	}
	s.things, s.at[x.addr] = append(s.things, x), x
	return reference(x), ""
}

// handled returns the handle of a thing.
func (s *Story) handled(x *Thing) uint64 {
	at := slices.Index(s.handles, handle{thing: x})
	if at < 0 {
		at = len(s.handles)
		s.handles = append(s.handles, handle{thing: x})
	}
	return uint64(at + 1)
}

func (s *Story) upgraded(number Value) (Value, string) {
	if number.Ref || number.W < 1 || number.W > uint64(len(s.handles)) {
		return Value{}, "what is no handle is not refused"
	}
	if x := s.handles[number.W-1]; !x.gone {
		return reference(x.thing), ""
	}
	return reference(nil), ""
}

func (s *Story) got(key *Thing) (Value, string) {
	val, ok := s.table[key]
	if !ok {
		return Value{}, "what is no key is not refused"
	}
	return reference(val), ""
}

// run tells of what was run, while there are objects at these addresses.
func (s *Story) run(ran api.Ran, addrs []uint64) string {
	x := s.owned[ran.Item.Tag]
	if x == nil || x.ran || x.kind != ran.Item.Kind {
		return "something is run that never was to be, or twice"
	}
	x.ran = true
	if x.kind == api.SpecialClean {
		if s.at[x.thing.addr] == x.thing && slices.Contains(addrs, x.thing.addr) {
			return "a cleanup is run of an object that exists"
		}
		return ""
	}
	if ran.Item.Addr != x.thing.addr || !slices.Equal(ran.Fields, x.thing.words()) {
		return "a finalizer is run with another object"
	}
	if ran.Item.Tag%2 == 1 {
		s.regs[0][0] = reference(x.thing)
	}
	return ""
}

// words returns what the fields of a thing contain.
func (x *Thing) words() []uint64 {
	var out []uint64
	for _, v := range x.fields {
		out = append(out, v.reg().W)
	}
	return out
}

// registers returns which register of r does not contain what it has to.
func (s *Story) registers(r api.Runtime) string {
	for who, m := range r.Mutators {
		for i, reg := range m.Regs {
			if reg != s.regs[who][i].reg() {
				return "register " + strconv.Itoa(i) + " of mutator " + strconv.Itoa(who) + " has another value"
			}
		}
	}
	return ""
}

// weak returns which weak handle of r does not refer to its object, though it does not refer to nothing for ever, either.
func (s *Story) weak(r api.Runtime) string {
	if len(r.Gc.Weak) != len(s.handles) {
		return "there are fewer or more weak handles than were made"
	}
	for i, addr := range r.Gc.Weak {
		x := &s.handles[i]
		switch {
		case addr != 0 && (x.gone || addr != x.thing.addr || s.at[addr] != x.thing):
			return "weak handle " + strconv.Itoa(i+1) + " refers to another object"
		case addr == 0 && !x.gone && !x.thing.lost:
			return "weak handle " + strconv.Itoa(i+1) + " does not refer to its object, which is reachable"
		}
		x.gone = addr == 0
	}
	return ""
}

// queue returns what waits in r that is not to be run, or not yet.
func (s *Story) queue(r api.Runtime) string {
	s.items = nil
	for _, item := range r.Gc.Queue {
		x := s.owned[item.Tag]
		if x == nil || x.ran || x.kind != item.Kind || !x.thing.lost {
			return "something waits that is not to be run"
		}
		if x.kind == api.SpecialFinal {
			s.items = append(s.items, x.thing)
		}
	}
	return ""
}

// objects returns which reachable object r has not, or not as it was stored. What is not reachable is lost.
func (s *Story) objects(r api.Runtime) string {
	live := s.reachable()
	there := map[uint64]Object{}
	for _, o := range Objects(r.Gc.Marker.Heap) {
		there[o.Addr] = o
	}
	for _, x := range s.things {
		if _, ok := live[x]; !ok {
			x.lost = true
			continue
		}
		o, ok := there[x.addr]
		if !ok || s.at[x.addr] != x || o.Mask != x.mask || !slices.Equal(o.Fields, x.words()) {
			return "the object at " + strconv.FormatUint(x.addr, 10) + " is not what was stored"
		}
	}
	return ""
}

// reachable returns what registers and items lead to.
func (s *Story) reachable() map[*Thing]struct{} {
	live := map[*Thing]struct{}{}
	left := slices.Clone(s.items)
	for _, regs := range s.regs {
		left = append(left, led(regs)...)
	}
	for len(left) > 0 {
		x := left[len(left)-1]
		left = left[:len(left)-1]
		if _, ok := live[x]; ok || x == nil {
			continue
		}
		live[x] = struct{}{}
		left = append(left, led(x.fields)...)
		left = append(left, s.table[x])
	}
	return live
}

// led returns what values refer to, and nil for those that refer to nothing.
func led(l []Value) []*Thing {
	var out []*Thing
	for _, v := range l {
		out = append(out, v.Thing)
	}
	return out
}

// SomePick returns a pick that may happen in this runtime: in most cases an operation. A special has this tag.
func SomePick(p *Picks, r api.Runtime, tag uint64) api.Pick {
	if p.Below(5) < 2 {
		all := []api.Task{{Kind: api.TaskStart}, {Kind: api.TaskFinish}, {Kind: api.TaskSweep}, {Kind: api.TaskRun}}
		for who := range r.Mutators {
			all = append(all, api.Task{Kind: api.TaskScan, Who: who})
		}
		for who := range r.Gc.Marker.Hands {
			work := api.Task{Kind: api.TaskWork, Who: who}
			all = append(all, work, work, work)
		}
		return api.Pick{Task: all[p.Below(len(all))]}
	}
	op := SomeOp(p)
	if p.Below(2) == 0 {
		op.Kind = []api.OpKind{api.OpNew, api.OpLoad, api.OpStore}[p.Below(3)]
	}
	if op.Kind == api.OpFinal || op.Kind == api.OpClean {
		op.W = tag
	}
	return api.Pick{Mutator: true, Who: p.Below(len(r.Mutators)), Op: op}
}
