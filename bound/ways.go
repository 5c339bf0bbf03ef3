package bound

import (
	"math"

	"warden/api"
	"warden/span"
	"warden/tnum"
)

// highHalf has the bits that a lower half has not.
const highHalf = math.MaxUint64 - math.MaxUint32

func half() api.Span {
	return api.Span{High: math.MaxUint32}
}

func signedHalf() api.Reach {
	return api.Reach{Low: math.MinInt32, High: math.MaxInt32}
}

// nothing is made alike wherever no number is left, so that answers may be compared as they are.
func nothing() api.Bound {
	return api.Bound{U: api.Span{Low: 1}, S: api.Reach{Low: 1}, W: api.Span{Low: 1}, V: api.Reach{Low: 1}}
}

func lower(x uint64) uint64 {
	return x & math.MaxUint32
}

func signedLower(x uint64) int64 {
	return int64(int32(x))
}

// within needs both ends of a alone, as a has a number wherever it is asked.
func within(a, b api.Reach) bool {
	return span.Holds(b, a.Low) && span.Holds(b, a.High)
}

// steps has what one round does: each step lets one way tell another one what it knows, and answers whether a number may be left.
func steps() []func(b *api.Bound) bool {
	return []func(b *api.Bound) bool{
		func(b *api.Bound) bool { return meet(&b.U, ends(b.T)) },
		func(b *api.Bound) bool { return cut(&b.S, signedEnds(b.T, 64)) },
		func(b *api.Bound) bool { return cut(&b.S, span.Sign(b.U)) },
		func(b *api.Bound) bool { return meet(&b.U, span.Bare(b.S)) },
		func(b *api.Bound) bool { return know(&b.T, tnum.Range(b.U.Low, b.U.High)) },
		func(b *api.Bound) bool { return meet(&b.W, ends(tnum.Low(b.T, 32))) },
		func(b *api.Bound) bool { return cut(&b.V, signedEnds(tnum.Low(b.T, 32), 32)) },
		func(b *api.Bound) bool { return cut(&b.V, signOfHalf(b.W)) },
		func(b *api.Bound) bool { return meet(&b.W, bareHalf(b.V)) },
		func(b *api.Bound) bool { return know(&b.T, lowRange(b.W)) },
		oneUpperHalf,
	}
}

func meet(a *api.Span, b api.Span) bool {
	*a = span.Meet(*a, b)
	return !span.None(*a)
}

func cut(a *api.Reach, b api.Reach) bool {
	*a = span.Cut(*a, b)
	return !span.Nil(*a)
}

func know(a *api.Tnum, b api.Tnum) bool {
	met, some := tnum.Meet(*a, b)
	*a = met
	return some
}

// ends has the least and the greatest number of the tnum.
func ends(t api.Tnum) api.Span {
	return api.Span{Low: t.Value, High: t.Value | t.Mask}
}

// signedEnds has those of so many bits with a sign: the highest bit is the sign, and makes a number less, where the others make it greater.
func signedEnds(t api.Tnum, bits uint) api.Reach {
	sign := uint64(1) << (bits - 1)
	return api.Reach{
		Low:  withSign(t.Value|t.Mask&sign, bits),
		High: withSign(t.Value|t.Mask&^sign, bits),
	}
}

func withSign(x uint64, bits uint) int64 {
	if bits == 32 {
		return signedLower(x)
	}
	return int64(x)
}

// signOfHalf tells nothing of halves that lie on both sides of the middle: with a sign the sides change places.
func signOfHalf(w api.Span) api.Reach {
	if w.Low>>31 != w.High>>31 {
		return signedHalf()
	}
	return api.Reach{Low: signedLower(w.Low), High: signedLower(w.High)}
}

// bareHalf is the same the other way.
func bareHalf(v api.Reach) api.Span {
	if (v.Low < 0) != (v.High < 0) {
		return half()
	}
	return api.Span{Low: lower(uint64(v.Low)), High: lower(uint64(v.High))}
}

// lowRange knows bits of a lower half alone.
func lowRange(w api.Span) api.Tnum {
	t := tnum.Range(w.Low, w.High)
	return api.Tnum{Value: lower(t.Value), Mask: t.Mask | highHalf}
}

// oneUpperHalf lets numbers and lower halves tell each other their ends: that they can, once all numbers have one upper half, as then they have one order.
func oneUpperHalf(b *api.Bound) bool {
	upper := b.U.Low & highHalf
	if upper != b.U.High&highHalf {
		return true
	}
	if !meet(&b.W, api.Span{Low: lower(b.U.Low), High: lower(b.U.High)}) {
		return false
	}
	return meet(&b.U, api.Span{Low: upper | b.W.Low, High: upper | b.W.High})
}
