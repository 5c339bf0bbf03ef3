package insn

import "warden/api"

const (
	classBits uint8 = 0x07
	modeBits  uint8 = 0xe0
)

// Kind answers what the instruction is; InsnNone, if its Op is none, or if anything that is not used in it is not 0.
func Kind(i api.Insn) uint8 {
	if i.Dst >= api.Regs || i.Src >= api.Regs {
		return api.InsnNone
	}
	kind := named(i)
	if mayWrite(kind, i.Dst) && unused(kind, i) == (api.Insn{}) {
		return kind
	}
	return api.InsnNone
}

// named answers the kind that Op tells, with the sorts of calls and of wide ones that Src tells; what else there is may still not fit it.
func named(i api.Insn) uint8 {
	switch classOf(i.Op) {
	case api.ClassLd:
		if i.Op == api.OpWide && i.Src <= api.WideFun {
			return api.InsnWide
		}
	case api.ClassLdx:
		return inMemory(i.Op, api.InsnLoad)
	case api.ClassSt:
		return inMemory(i.Op, api.InsnSt)
	case api.ClassStx:
		return inMemory(i.Op, api.InsnStx)
	case api.ClassAlu, api.ClassAlu64:
		return reckoned(i)
	case api.ClassJmp:
		if !asks(Code(i)) {
			return asksNothing(i)
		}
		// The codes that ask are the same in both classes.
		fallthrough
	case api.ClassJmp32:
		if asks(Code(i)) {
			return api.InsnJump
		}
	}
	return api.InsnNone
}

// reckoned answers InsnAlu, if the code is one that reckons. The one that takes a single number has no second one that a register could be.
func reckoned(i api.Insn) uint8 {
	if !reckons(Code(i)) || Code(i) == api.AluNeg && hasX(i.Op) {
		return api.InsnNone
	}
	return api.InsnAlu
}

// inMemory answers the kind, if the mode is the one of memory.
func inMemory(op, kind uint8) uint8 {
	if op&modeBits == api.ModeM {
		return kind
	}
	return api.InsnNone
}

// asksNothing answers the kinds that class Jmp has besides those that ask.
func asksNothing(i api.Insn) uint8 {
	if hasX(i.Op) {
		return api.InsnNone
	}
	switch Code(i) {
	case api.JmpA:
		return api.InsnGo
	case api.JmpExit:
		return api.InsnExit
	case api.JmpCall:
		return called(i.Src)
	}
	return api.InsnNone
}

// called answers the kind of a call of that sort.
func called(sort uint8) uint8 {
	switch sort {
	case api.CallKernel:
		return api.InsnCall
	case api.CallSub:
		return api.InsnSub
	}
	return api.InsnNone
}

// mayWrite tells whether the kind may have that Dst: the stack's end is never written.
func mayWrite(kind, dst uint8) bool {
	switch kind {
	case api.InsnAlu, api.InsnLoad, api.InsnWide:
		return dst != api.RegFp
	}
	return true
}

// unused answers the instruction with all that is used in its kind set to 0, so that what is left must be none.
func unused(kind uint8, i api.Insn) api.Insn {
	switch kind {
	case api.InsnJump:
		i.Off = 0
		fallthrough
	case api.InsnAlu:
		i.Dst = 0
		i = withoutSecond(kind, i)
	case api.InsnLoad, api.InsnStx:
		i.Dst, i.Src, i.Off = 0, 0, 0
	case api.InsnSt:
		i.Dst, i.Off, i.Imm = 0, 0, 0
	case api.InsnGo:
		i.Off = 0
	case api.InsnWide:
		i.Dst = 0
		fallthrough
	case api.InsnCall, api.InsnSub:
		i.Src, i.Imm = 0, 0
	}
	i.Op = 0
	return i
}

// withoutSecond sets the second number to 0: Src or Imm, whichever it is.
func withoutSecond(kind uint8, i api.Insn) api.Insn {
	switch {
	case hasX(i.Op):
		i.Src = 0
	case kind == api.InsnAlu && Code(i) == api.AluNeg:
		// It has no second number, so that nothing of the kind may be there.
	default:
		i.Imm = 0
	}
	return i
}

func classOf(op uint8) uint8 {
	return op & classBits
}

// hasX tells whether the second number is a register.
func hasX(op uint8) bool {
	return op&api.BitX != 0
}

// reckons tells whether two numbers become something by the code (layer 2).
func reckons(code uint8) bool {
	return code <= api.AluArsh
}

// asks tells whether the code asks anything of two numbers (layer 2): always going asks nothing.
func asks(code uint8) bool {
	switch code {
	case api.JmpEq, api.JmpNe, api.JmpGt, api.JmpGe, api.JmpLt, api.JmpLe, api.JmpSgt, api.JmpSge, api.JmpSlt, api.JmpSle, api.JmpSet:
		return true
	}
	return false
}
