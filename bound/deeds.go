package bound

import (
	"warden/api"
	"warden/span"
	"warden/tnum"
)

// deed is what becomes of two bounds, with all 64 bits.
type deed func(a, b api.Bound) api.Bound

// deeds has what becomes of two bounds by each code.
func deeds() map[uint8]deed {
	return map[uint8]deed{
		api.AluAdd:  added,
		api.AluSub:  subtracted,
		api.AluMul:  multiplied,
		api.AluDiv:  func(a, b api.Bound) api.Bound { return inSpan(span.Div(a.U, b.U)) },
		api.AluMod:  func(a, b api.Bound) api.Bound { return inSpan(span.Mod(a.U, b.U)) },
		api.AluOr:   ored,
		api.AluAnd:  anded,
		api.AluXor:  xored,
		api.AluLsh:  shiftedUp,
		api.AluRsh:  shiftedDown,
		api.AluArsh: shiftedSigned,
		api.AluNeg:  func(a, _ api.Bound) api.Bound { return subtracted(Const(0), a) },
		api.AluMov:  func(_, b api.Bound) api.Bound { return b },
	}
}

// narrow does with lower halves what is done with all bits, but for shifts: these hang on how many bits there are.
func narrow(code uint8, does deed, a, b api.Bound) api.Bound {
	x, y := Low(a, 32), Low(b, 32)
	if code == api.AluArsh {
		x = signedLow(a)
	}
	if None(x) || None(y) {
		return nothing()
	}
	if code == api.AluLsh || code == api.AluRsh || code == api.AluArsh {
		y = fiveBits(b)
	}
	return Low(does(x, y), 32)
}

// signedLow is what is known of the lower half with its sign, as a number of 64 bits.
func signedLow(b api.Bound) api.Bound {
	low := Any()
	low.T = tnum.Sar(tnum.Shl(b.T, 32), 32)
	low.S = b.V
	return Sync(low)
}

// fiveBits is what a half is shifted by: of b's own bits five count, whatever its other ways could tell of them, and the sixth, which counts where all 64 are shifted, is 0.
func fiveBits(b api.Bound) api.Bound {
	low := Any()
	low.T = tnum.Low(b.T, 5)
	return low
}

func added(a, b api.Bound) api.Bound {
	return Sync(api.Bound{
		T: tnum.Add(a.T, b.T),
		U: span.Add(a.U, b.U),
		S: span.Plus(a.S, b.S),
		W: ifHalf(span.Add(a.W, b.W)),
		V: ifSignedHalf(span.Plus(a.V, b.V)),
	})
}

func subtracted(a, b api.Bound) api.Bound {
	return Sync(api.Bound{
		T: tnum.Sub(a.T, b.T),
		U: span.Sub(a.U, b.U),
		S: span.Minus(a.S, b.S),
		W: ifHalf(span.Sub(a.W, b.W)),
		V: ifSignedHalf(span.Minus(a.V, b.V)),
	})
}

func multiplied(a, b api.Bound) api.Bound {
	c := Any()
	c.T = tnum.Mul(a.T, b.T)
	c.U = span.Mul(a.U, b.U)
	c.W = ifHalf(span.Mul(a.W, b.W))
	return Sync(c)
}

// anded tells that no bits come by it: there is no number above the lesser one.
func anded(a, b api.Bound) api.Bound {
	c := Any()
	c.T = tnum.And(a.T, b.T)
	c.U.High = min(a.U.High, b.U.High)
	c.W.High = min(a.W.High, b.W.High)
	return Sync(c)
}

// ored tells that no bits go by it: there is no number below the greater one.
func ored(a, b api.Bound) api.Bound {
	c := Any()
	c.T = tnum.Or(a.T, b.T)
	c.U.Low = max(a.U.Low, b.U.Low)
	c.W.Low = max(a.W.Low, b.W.Low)
	return Sync(c)
}

func xored(a, b api.Bound) api.Bound {
	c := Any()
	c.T = tnum.Xor(a.T, b.T)
	return Sync(c)
}

func shiftedUp(a, b api.Bound) api.Bound {
	c := Any()
	if n, known := sixBits(b); known {
		c.T, c.U = tnum.Shl(a.T, n), span.Shl(a.U, n)
	}
	return Sync(c)
}

// shiftedDown tells that no number grows by it, even where it is not known how far it goes.
func shiftedDown(a, b api.Bound) api.Bound {
	n, known := sixBits(b)
	if !known {
		return inSpan(api.Span{High: a.U.High})
	}
	c := Any()
	c.T, c.U = tnum.Shr(a.T, n), span.Shr(a.U, n)
	return Sync(c)
}

func shiftedSigned(a, b api.Bound) api.Bound {
	c := Any()
	if n, known := sixBits(b); known {
		c.T, c.S = tnum.Sar(a.T, n), span.Sar(a.S, n)
	}
	return Sync(c)
}

// sixBits is by how many bits a number is shifted, and whether that is known: bits above the sixth do not count.
func sixBits(b api.Bound) (uint, bool) {
	low := tnum.Low(b.T, 6)
	return uint(low.Value), low.Mask == 0
}

// inSpan is what is known of a number, if it is known only where it lies.
func inSpan(u api.Span) api.Bound {
	c := Any()
	c.U = u
	return Sync(c)
}

// ifHalf has the ends as they come out, if no half between them goes round; else any half may come.
func ifHalf(w api.Span) api.Span {
	if !span.In(w, half()) {
		return half()
	}
	return w
}

// ifSignedHalf is the same with a sign.
func ifSignedHalf(v api.Reach) api.Reach {
	if !within(v, signedHalf()) {
		return signedHalf()
	}
	return v
}
