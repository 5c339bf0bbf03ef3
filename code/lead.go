package code

import (
	"iter"
	"slices"

	"warden/api"
)

// Next answers where the instruction leads, rising, each once.
func Next(l []api.Insn, at int) []int {
	return slices.Compact(slices.Sorted(leads(l, at)))
}

// leads goes through where the instruction leads, also to slots that are not there; a jump may lead to one slot twice.
func leads(l []api.Insn, at int) iter.Seq[int] {
	return func(yield func(int) bool) {
		switch kindAt(l, at) {
		case api.InsnNone, api.InsnExit:
		case api.InsnGo:
			yield(target(l, at))
		case api.InsnJump:
			if yield(behind(l, at)) {
				yield(target(l, at))
			}
		default:
			yield(behind(l, at))
		}
	}
}

// target answers where a jump goes.
func target(l []api.Insn, at int) int {
	return at + 1 + int(l[at].Off)
}

// behind answers where the next instruction begins.
func behind(l []api.Insn, at int) int {
	if kindAt(l, at) == api.InsnWide {
		return at + 2
	}
	return at + 1
}

// Callee answers where the subprogram begins that the instruction names; false, if it names none.
func Callee(l []api.Insn, at int) (int, bool) {
	if kindAt(l, at) == api.InsnSub || isFunction(l, at) {
		return behind(l, at) + int(l[at].Imm), true
	}
	return 0, false
}

// isFunction answers whether the instruction names a function without calling it.
func isFunction(l []api.Insn, at int) bool {
	return kindAt(l, at) == api.InsnWide && l[at].Src == api.WideFun
}
