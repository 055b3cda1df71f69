package sample

import "besom/api"

// SomeOp returns an operation of any kind, with registers that there are.
func SomeOp(p *Picks) api.Op {
	return api.Op{
		Kind: 1 + api.OpKind(p.Below(int(api.OpCount)-1)),
		A:    p.Below(4), B: p.Below(4), Field: p.Below(4), Shape: SomeShape(p), W: uint64(p.Below(70)),
	}
}

// SomeShape returns a valid shape, most often a small one.
func SomeShape(p *Picks) api.Shape {
	n := p.Below(8)
	if p.Below(6) == 0 {
		n = p.Below(49)
	}
	return api.Shape{N: n, Mask: p.Word() >> 8 & (1<<n - 1)}
}

// HasTwo reports whether operations of this kind have a register B.
func HasTwo(kind api.OpKind) bool {
	switch kind {
	case api.OpLoad, api.OpStore, api.OpMove, api.OpWeak, api.OpUpgrade, api.OpPut, api.OpGet:
		return true
	}
	return false
}

// OpKinds returns the kinds of operations.
func OpKinds() []api.OpKind {
	return []api.OpKind{
		api.OpNew, api.OpLoad, api.OpStore, api.OpMove, api.OpConst, api.OpNil, api.OpWeak,
		api.OpUpgrade, api.OpPut, api.OpGet, api.OpDel, api.OpFinal, api.OpClean, api.OpGc,
	}
}

// BadOpKinds returns kinds that no operation has.
func BadOpKinds() []api.OpKind {
	return []api.OpKind{api.OpNone, api.OpCount, 16, 64, 127, 128, 129, 142, 255}
}
