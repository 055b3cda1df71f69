package asm

import (
	"math"

	"besom/api"
	"besom/head"
)

// operand is a field of an instruction, or of its operation, that a word of its line tells.
type operand int

const (
	nothing operand = iota
	opA
	opB
	opField
	opN
	opMask
	opW
	instrA
	instrB
	instrTo
)

// operands are those of a line, in the order of its words. They end at the first one that is nothing.
type operands [3]operand

// form tells how the lines of a kind of instructions are, or, for InstrDo, of a kind of operations.
type form struct {
	name     string
	kind     api.InstrKind
	op       api.OpKind
	operands operands
}

var forms = [...]form{
	{"new", api.InstrDo, api.OpNew, operands{opA, opN, opMask}},
	{"load", api.InstrDo, api.OpLoad, operands{opA, opB, opField}},
	{"store", api.InstrDo, api.OpStore, operands{opA, opB, opField}},
	{"move", api.InstrDo, api.OpMove, operands{opA, opB}},
	{"const", api.InstrDo, api.OpConst, operands{opA, opW}},
	{"nil", api.InstrDo, api.OpNil, operands{opA}},
	{"weak", api.InstrDo, api.OpWeak, operands{opA, opB}},
	{"up", api.InstrDo, api.OpUpgrade, operands{opA, opB}},
	{"put", api.InstrDo, api.OpPut, operands{opA, opB}},
	{"get", api.InstrDo, api.OpGet, operands{opA, opB}},
	{"del", api.InstrDo, api.OpDel, operands{opA}},
	{"final", api.InstrDo, api.OpFinal, operands{opA, opW}},
	{"clean", api.InstrDo, api.OpClean, operands{opA, opW}},
	{"gc", api.InstrDo, api.OpGc, operands{}},
	{"add", api.InstrAdd, api.OpNone, operands{instrA, instrB}},
	{"sub", api.InstrSub, api.OpNone, operands{instrA, instrB}},
	{"jump", api.InstrJump, api.OpNone, operands{instrTo}},
	{"zero", api.InstrZero, api.OpNone, operands{instrA, instrTo}},
	{"same", api.InstrSame, api.OpNone, operands{instrA, instrB, instrTo}},
	{"halt", api.InstrHalt, api.OpNone, operands{}},
}

// named returns the form of the lines that begin with a name.
func named(name string) (form, bool) {
	for _, f := range forms {
		if f.name == name {
			return f, true
		}
	}
	return form{}, false
}

// formOf returns the form of the line of an instruction.
func formOf(x api.Instr) (form, bool) {
	for _, f := range forms {
		if f.kind == x.Kind && f.op == x.Op.Kind {
			return f, true
		}
	}
	return form{}, false
}

// bare returns an instruction of a form without its operands.
func (f form) bare() api.Instr {
	return api.Instr{Kind: f.kind, Op: api.Op{Kind: f.op}}
}

// list returns the operands of a line.
func (f form) list() []operand {
	var l []operand
	for _, o := range f.operands {
		if o == nothing {
			break
		}
		l = append(l, o)
	}
	return l
}

// valid reports whether an instruction is valid in a program of so many instructions.
func valid(x api.Instr, count int) bool {
	f, ok := formOf(x)
	if !ok {
		return false
	}
	// What is made of the operands alone has zero in all other fields.
	made := f.bare()
	for _, o := range f.list() {
		n := o.get(x)
		if n > o.most(count) {
			return false
		}
		o.put(&made, n)
	}
	return made == x && head.Check(x.Op.Shape) == api.OK
}

// isReg reports whether an operand is the number of a register.
func (o operand) isReg() bool {
	return o == opA || o == opB || o == instrA || o == instrB
}

// most returns the greatest number that an operand may be in a program of so many instructions. Which masks there may be hangs on the number of fields, too.
func (o operand) most(count int) uint64 {
	switch o {
	case opField:
		return api.MaxFields - 1
	case opN:
		return api.MaxFields
	case opMask, opW:
		return math.MaxUint64
	case instrTo:
		return uint64(count)
	}
	return api.NumRegs - 1
}

// get returns an operand of an instruction. One that is negative is greater than it may be then.
func (o operand) get(x api.Instr) uint64 {
	switch o {
	case opA:
		return uint64(x.Op.A)
	case opB:
		return uint64(x.Op.B)
	case opField:
		return uint64(x.Op.Field)
	case opN:
		return uint64(x.Op.Shape.N)
	case opMask:
		return x.Op.Shape.Mask
	case opW:
		return x.Op.W
	case instrA:
		return uint64(x.A)
	case instrB:
		return uint64(x.B)
	}
	return uint64(x.To)
}

// put makes n, which is no greater than it may be, an operand of an instruction.
func (o operand) put(x *api.Instr, n uint64) {
	switch o {
	case opA:
		x.Op.A = int(n)
	case opB:
		x.Op.B = int(n)
	case opField:
		x.Op.Field = int(n)
	case opN:
		x.Op.Shape.N = int(n)
	case opMask:
		x.Op.Shape.Mask = n
	case opW:
		x.Op.W = n
	case instrA:
		x.A = int(n)
	case instrB:
		x.B = int(n)
	case instrTo:
		x.To = int(n)
	}
}
