package cond

import (
	"math"
	"math/bits"

	"warden/alu"
	"warden/api"
	"warden/bound"
	"warden/span"
	"warden/tnum"
)

// telling tells two bounds what is so of their numbers; false, if it can't be so.
type telling func(a, b *api.Bound) bool

// told is what is to be told once the code's question is answered; nil, if the code asks nothing.
func told(code uint8, wide, so bool) telling {
	if so {
		return tells(code, wide)
	}
	if other, is := alu.Other(code); is {
		return tells(other, wide)
	}
	switch code {
	case api.JmpA:
		return func(_, _ *api.Bound) bool { return false }
	case api.JmpSet:
		return apartInBits(wide)
	}
	return nil
}

// tells is what is to be told where it is so what the code asks; nil, if it asks nothing.
func tells(code uint8, wide bool) telling {
	switch code {
	case api.JmpA:
		return func(_, _ *api.Bound) bool { return true }
	case api.JmpEq:
		return alike(wide)
	case api.JmpNe:
		return unlike(wide)
	case api.JmpSet:
		return alikeInBits(wide)
	case api.JmpGt:
		return greater(wide, bare, 1)
	case api.JmpGe:
		return greater(wide, bare, 0)
	case api.JmpSgt:
		return greater(wide, signed, 1)
	case api.JmpSge:
		return greater(wide, signed, 0)
	case api.JmpLt, api.JmpLe, api.JmpSlt, api.JmpSle:
		return turned(code, wide)
	}
	return nil
}

// turned tells b and a what the code that asks the same of them tells.
func turned(code uint8, wide bool) telling {
	other, _ := alu.Turned(code)
	of := tells(other, wide)
	return func(a, b *api.Bound) bool { return of(b, a) }
}

// empty is a bound that Sync makes nothing of at once: bits that may not be must not become such as may by what they are told.
func empty(b api.Bound) bool {
	return bound.None(b) || !tnum.May(b.T)
}

// nothing is what is left of two bounds that have no number in common.
func nothing() api.Bound {
	return bound.Meet(bound.Const(0), bound.Const(1))
}

// alike lets each of two bounds know all that the other one knows, of its lower half alone where the other half was not asked about.
func alike(wide bool) telling {
	if !wide {
		return alikeInHalves
	}
	return func(a, b *api.Bound) bool {
		met := bound.Meet(*a, *b)
		*a, *b = met, met
		return true
	}
}

func alikeInHalves(a, b *api.Bound) bool {
	ofA, ofB := lowerBits(a.T), lowerBits(b.T)
	w, v := span.Meet(a.W, b.W), span.Cut(a.V, b.V)
	a.W, b.W = w, w
	a.V, b.V = v, v
	return know(&a.T, ofB) && know(&b.T, ofA)
}

// unlike takes a number from one bound, if the other bound has that number alone.
func unlike(wide bool) telling {
	return func(a, b *api.Bound) bool {
		ofA, ofB := *spanOf(a, wide), *spanOf(b, wide)
		leaveOut(a, ofB, wide)
		leaveOut(b, ofA, wide)
		return true
	}
}

func leaveOut(b *api.Bound, other api.Span, wide bool) {
	if other.Low != other.High {
		return
	}
	for _, without := range withouts(wide) {
		without(b, other.Low)
	}
}

// greater lets a's number be greater than b's, by gap at least, in one way of both.
func greater(wide bool, way int, gap uint8) telling {
	above := orders(wide)[way]
	return func(a, b *api.Bound) bool { return above(a, b, gap) }
}

// alikeInBits finds which bit both have, if one of them has no other.
func alikeInBits(wide bool) telling {
	return func(a, b *api.Bound) bool {
		ofA, ofB := bitsOf(a.T, wide), bitsOf(b.T, wide)
		switch {
		case tnum.And(ofA, ofB) == tnum.Const(0):
			return false
		case oneBit(ofA):
			return know(&b.T, ones(ofA.Value))
		case oneBit(ofB):
			return know(&a.T, ones(ofB.Value))
		}
		return true
	}
}

// apartInBits takes from each of two bounds the bits that the other one is known to have.
func apartInBits(wide bool) telling {
	return func(a, b *api.Bound) bool {
		ofA, ofB := bitsOf(a.T, wide), bitsOf(b.T, wide)
		return know(&a.T, zeros(ofB.Value)) && know(&b.T, zeros(ofA.Value))
	}
}

// bitsOf has the bits that are asked about.
func bitsOf(t api.Tnum, wide bool) api.Tnum {
	if wide {
		return t
	}
	return tnum.Low(t, 32)
}

// lowerBits knows of a number what is known of its lower half alone.
func lowerBits(t api.Tnum) api.Tnum {
	low := tnum.Low(t, 32)
	low.Mask |= math.MaxUint64 - math.MaxUint32
	return low
}

func oneBit(t api.Tnum) bool {
	return t.Mask == 0 && bits.OnesCount64(t.Value) == 1
}

// ones knows that these bits are 1, zeros that they are 0, and no others.
func ones(x uint64) api.Tnum {
	return api.Tnum{Value: x, Mask: ^x}
}

func zeros(x uint64) api.Tnum {
	return api.Tnum{Mask: ^x}
}

func know(t *api.Tnum, more api.Tnum) bool {
	met, is := tnum.Meet(*t, more)
	*t = met
	return is
}
