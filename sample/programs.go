package sample

import (
	"math"
	"slices"

	"besom/api"
)

// Do returns the instruction that executes an operation.
func Do(op api.Op) api.Instr {
	return api.Instr{Kind: api.InstrDo, Op: op}
}

// Instrs returns instructions of all kinds, with operands at their edges, that are valid in a program of so many instructions.
func Instrs(count int) []api.Instr {
	out := []api.Instr{
		Do(api.Op{Kind: api.OpGc}), {Kind: api.InstrHalt}, {Kind: api.InstrJump}, {Kind: api.InstrJump, To: count},
		{Kind: api.InstrZero}, {Kind: api.InstrZero, A: 3, To: count}, {Kind: api.InstrSame}, {Kind: api.InstrSame, A: 1, B: 3, To: count}, {Kind: api.InstrSame, A: 3, B: 2},
	}
	for _, kind := range []api.InstrKind{api.InstrAdd, api.InstrSub} {
		out = append(out, api.Instr{Kind: kind}, api.Instr{Kind: kind, A: 3, B: 1}, api.Instr{Kind: kind, B: 3})
	}
	for _, kind := range OpKinds() {
		if HasTwo(kind) {
			out = append(out, Do(api.Op{Kind: kind}), Do(api.Op{Kind: kind, A: 2, B: 3}), Do(api.Op{Kind: kind, A: 3}))
		} else if kind != api.OpGc {
			out = append(out, Do(api.Op{Kind: kind}), Do(api.Op{Kind: kind, A: 3}))
		}
	}
	for _, shape := range []api.Shape{{N: 1}, {N: 1, Mask: 1}, {N: 3, Mask: 5}, {N: 48}, {N: 48, Mask: 1<<48 - 1}, {N: 47, Mask: 1 << 46}} {
		out = append(out, Do(api.Op{Kind: api.OpNew, A: 1, Shape: shape}))
	}
	for _, field := range []int{1, 10, 47} {
		out = append(out, Do(api.Op{Kind: api.OpLoad, A: 1, B: 2, Field: field}), Do(api.Op{Kind: api.OpStore, A: 3, Field: field}))
	}
	for _, w := range []uint64{1, 7, 10, 1 << 32, 1<<63 - 1, 1 << 63, math.MaxUint64} {
		out = append(out, Do(api.Op{Kind: api.OpConst, A: 2, W: w}), Do(api.Op{Kind: api.OpFinal, A: 3, W: w}), Do(api.Op{Kind: api.OpClean, W: w}))
	}
	return out
}

// SomeInstr returns an instruction that is valid in a program of so many instructions.
func SomeInstr(p *Picks, count int) api.Instr {
	x := api.Instr{Kind: 1 + api.InstrKind(p.Below(int(api.InstrCount)-1))}
	if p.Below(2) == 0 {
		x.Kind = api.InstrDo
	}
	switch x.Kind {
	case api.InstrDo:
		x.Op = bareOp(p, SomeOp(p))
	case api.InstrAdd, api.InstrSub:
		x.A, x.B = p.Below(4), p.Below(4)
	case api.InstrJump:
		x.To = p.Below(count + 1)
	case api.InstrZero:
		x.A, x.To = p.Below(4), p.Below(count+1)
	case api.InstrSame:
		x.A, x.B, x.To = p.Below(4), p.Below(4), p.Below(count+1)
	}
	return x
}

// bareOp returns the operation with zero where its kind uses nothing. Some of its numbers are greater than those of the operation.
func bareOp(p *Picks, op api.Op) api.Op {
	out := api.Op{Kind: op.Kind, A: op.A}
	switch op.Kind {
	case api.OpGc:
		out.A = 0
	case api.OpNew:
		out.Shape = op.Shape
	case api.OpLoad, api.OpStore:
		out.Field = p.Below(48)
	case api.OpConst, api.OpFinal, api.OpClean:
		out.W = p.Word() >> p.Below(64)
	}
	if HasTwo(op.Kind) {
		out.B = op.B
	}
	return out
}

// SomeProgram returns a valid program of so many instructions.
func SomeProgram(p *Picks, count int) []api.Instr {
	var out []api.Instr
	for range count {
		out = append(out, SomeInstr(p, count))
	}
	return out
}

// FiveInstrs is the program of the text of the examples of chapter 24.
func FiveInstrs() []api.Instr {
	return []api.Instr{
		Do(api.Op{Kind: api.OpNew, A: 1, Shape: api.Shape{N: 3, Mask: 5}}), Do(api.Op{Kind: api.OpStore, A: 1, Field: 2}),
		{Kind: api.InstrSame, B: 1, To: 5}, Do(api.Op{Kind: api.OpFinal, A: 1, W: 7}), {Kind: api.InstrJump},
	}
}

// Programs returns valid programs: without instructions, small ones, and some that have as many instructions as there may be.
func Programs() [][]api.Instr {
	p := Picks(241)
	all := Instrs(0)
	out := [][]api.Instr{nil, {}, FiveInstrs(), Instrs(len(all)), {{Kind: api.InstrHalt}}, {{Kind: api.InstrJump}}, {{Kind: api.InstrJump, To: 1}}}
	for _, x := range all {
		out = append(out, []api.Instr{x})
	}
	for i := range 60 {
		out = append(out, SomeProgram(&p, 1+i%20))
	}
	return append(out, SomeProgram(&p, 255), SomeProgram(&p, 256), slices.Repeat([]api.Instr{{Kind: api.InstrJump, To: 256}}, 256), everyGoal())
}

// everyGoal is a program of as many instructions as there may be, each of which goes to a place of its own: to all but the first one.
func everyGoal() []api.Instr {
	var out []api.Instr
	for i := range 256 {
		out = append(out, api.Instr{Kind: api.InstrJump, To: 256 - i})
	}
	return out
}

// BadInstrs returns instructions that are valid in no program, each for a reason of its own.
func BadInstrs() []api.Instr {
	bad := []api.Instr{{}, {Op: api.Op{Kind: api.OpGc}}, {To: 1}, {A: 1, B: 2}}
	for _, kind := range []api.InstrKind{api.InstrNone, api.InstrCount, 16, 64, 127, 128, 129, 130, 135, 255} {
		bad = append(bad, api.Instr{Kind: kind}, api.Instr{Kind: kind, Op: api.Op{Kind: api.OpGc}})
	}
	for _, kind := range BadOpKinds() {
		bad = append(bad, Do(api.Op{Kind: kind}))
	}
	for _, x := range Instrs(5) {
		for _, change := range badFields(x) {
			y := x
			change(&y)
			bad = append(bad, y)
		}
	}
	return bad
}

// badFields are changes of an instruction each of which makes it valid in no program: numbers that its fields may not have.
func badFields(x api.Instr) []func(x *api.Instr) {
	var out []func(x *api.Instr)
	for _, n := range []int{math.MinInt, math.MinInt + 1, -1, 257, 1 << 32, 1<<32 + 1, math.MaxInt} {
		out = append(out, func(x *api.Instr) { x.Op.A = n }, func(x *api.Instr) { x.Op.B = n }, func(x *api.Instr) { x.Op.Field = n }, func(x *api.Instr) { x.Op.Shape.N = n },
			func(x *api.Instr) { x.A = n }, func(x *api.Instr) { x.B = n }, func(x *api.Instr) { x.To = n })
	}
	out = append(out, func(x *api.Instr) { x.Op.A = 4 }, func(x *api.Instr) { x.Op.B = 4 }, func(x *api.Instr) { x.A = 4 }, func(x *api.Instr) { x.B = 4 },
		func(x *api.Instr) { x.Op.Field = 48 }, func(x *api.Instr) { x.Op.Shape.N = 49 }, func(x *api.Instr) { x.Op.Shape.Mask = 1 << 48 }, func(x *api.Instr) { x.Op.Shape.Mask = 1 << 63 })
	if x.Kind != api.InstrDo {
		out = append(out, func(x *api.Instr) { x.Op.Kind = api.OpGc }, func(x *api.Instr) { x.Op.W = 1 })
	} else if op := x.Op.Kind; op != api.OpConst && op != api.OpFinal && op != api.OpClean {
		out = append(out, func(x *api.Instr) { x.Op.W = 1 }, func(x *api.Instr) { x.Op.W = math.MaxUint64 })
	}
	return out
}

// BadPrograms returns programs that are not valid, each for a reason of its own.
func BadPrograms() [][]api.Instr {
	p := Picks(242)
	halt := api.Instr{Kind: api.InstrHalt}
	bad := [][]api.Instr{
		slices.Repeat([]api.Instr{halt}, 257), slices.Repeat([]api.Instr{halt}, 5000), SomeProgram(&p, 257), make([]api.Instr, 1), make([]api.Instr, 256), make([]api.Instr, 257),
		{{Kind: api.InstrJump, To: 2}}, {{Kind: api.InstrZero, To: 2}}, {{Kind: api.InstrSame, To: 2}}, {halt, {Kind: api.InstrJump, To: 3}}, {{Kind: api.InstrJump, To: 256}, halt},
		append(slices.Repeat([]api.Instr{halt}, 255), api.Instr{Kind: api.InstrJump, To: 257}),
	}
	for _, x := range BadInstrs() {
		bad = append(bad, []api.Instr{x}, []api.Instr{halt, x}, []api.Instr{x, halt}, append(SomeProgram(&p, 9), x))
	}
	return bad
}
