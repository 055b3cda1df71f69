package sample

import "besom/api"

// trio is the shape of the objects of busy programs: the fields 0 and 1 hold references.
var trio = api.Shape{N: 3, Mask: 3}

// BusyProgram returns a program without end, of so many pieces: its registers 0 and 1 always refer to objects, which it makes, links and forgets, and the others have numbers. It uses no weak handles, begins no collections, and has no finalizers that bring objects back, so that it is refused for lack of space only.
func BusyProgram(p *Picks, pieces int) []api.Instr {
	out := []api.Instr{newTrio(0), newTrio(1), Do(api.Op{Kind: api.OpConst, A: 2, W: p.Word()}), Do(api.Op{Kind: api.OpConst, A: 3, W: 1})}
	for range pieces {
		out = append(out, busyPiece(p, len(out))...)
	}
	return append(out, api.Instr{Kind: api.InstrJump, To: 4})
}

func newTrio(reg int) api.Instr {
	return Do(api.Op{Kind: api.OpNew, A: reg, Shape: trio})
}

// busyPiece returns some instructions, which begin at a place in the program.
func busyPiece(p *Picks, at int) []api.Instr {
	some := p.Below(2)
	other, field, tag := 1-some, p.Below(2), 2*(p.Word()>>30)
	two := func(kind api.OpKind, a, b, field int) api.Instr {
		return Do(api.Op{Kind: kind, A: a, B: b, Field: field})
	}
	put := two(api.OpPut, some, other, 0)
	switch p.Below(14) {
	case 0:
		return []api.Instr{newTrio(some)}
	case 1:
		return []api.Instr{newTrio(some), two(api.OpStore, some, other, field)}
	case 2:
		return []api.Instr{two(api.OpStore, some, other, field)}
	case 3:
		return []api.Instr{put, two(api.OpGet, some, some, 0)}
	case 4:
		return []api.Instr{put, Do(api.Op{Kind: api.OpDel, A: some})}
	case 5:
		return []api.Instr{newTrio(some), Do(api.Op{Kind: api.OpFinal, A: some, W: tag})}
	case 6:
		return []api.Instr{newTrio(some), Do(api.Op{Kind: api.OpClean, A: some, W: tag})}
	case 7:
		return []api.Instr{two(api.OpMove, some, other, 0)}
	case 8:
		return []api.Instr{two(api.OpStore, some, 2+field, 2)}
	case 9:
		return []api.Instr{two(api.OpLoad, 2+field, some, 2)}
	case 10:
		return []api.Instr{{Kind: api.InstrAdd, A: 2, B: 3}, {Kind: api.InstrSub, A: 3, B: 2}}
	case 11:
		return []api.Instr{{Kind: api.InstrSame, A: some, B: other, To: at + 2}, {Kind: api.InstrAdd, A: 3, B: 3}}
	}
	// What a field refers to, or, if that is nothing, a new object.
	return []api.Instr{two(api.OpLoad, some, other, field), {Kind: api.InstrZero, A: some, To: at + 3}, {Kind: api.InstrJump, To: at + 4}, newTrio(some)}
}
