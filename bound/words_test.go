package bound_test

import (
	"math/big"

	"warden/api"
	"warden/tnum"
)

// chance makes numbers that have no pattern, the same in each run.
type chance uint64

func (c *chance) next() uint64 {
	*c += 0x9e3779b97f4a7c15
	z := uint64(*c)
	z = (z ^ z>>30) * 0xbf58476d1ce4e5b9
	z = (z ^ z>>27) * 0x94d049bb133111eb
	return z ^ z>>31
}

func (c *chance) below(n uint64) uint64 { return c.next() % n }

// number is, as often as not, one near to where halves and wholes end.
func (c *chance) number() uint64 {
	switch c.below(6) {
	case 0:
		return c.below(20)
	case 1:
		return -c.below(20)
	case 2:
		return uint64(1)<<c.below(64) + c.below(5) - 2
	case 3:
		return two31*c.below(6) + c.below(5) - 2
	case 4:
		return -(c.next() >> c.below(64))
	}
	return c.next() >> c.below(64)
}

func (c *chance) span() api.Span {
	x, y := c.number(), c.number()
	if c.below(3) == 0 {
		y = x + c.below(9)
	}
	return sp(min(x, y), max(x, y))
}

func (c *chance) reach() api.Reach {
	a := c.span()
	x, y := signed(a.Low), signed(a.High)
	return re(min(x, y), max(x, y))
}

func (c *chance) half() api.Span {
	a := c.span()
	x, y := lowerHalf(a.Low), lowerHalf(a.High)
	return sp(min(x, y), max(x, y))
}

func (c *chance) signedHalf() api.Reach {
	a := c.span()
	x, y := signedHalf(a.Low), signedHalf(a.High)
	return re(min(x, y), max(x, y))
}

func (c *chance) bits() api.Tnum {
	mask := c.number() | c.number()
	return tn(c.number()&^mask, mask)
}

// bound knows something in some of the five ways, not all of them told each other.
func (c *chance) bound() api.Bound {
	b := anything
	ways := c.next()
	if ways&1 != 0 {
		b.T = c.bits()
	}
	if ways&2 != 0 {
		b.U = c.span()
	}
	if ways&4 != 0 {
		b.S = c.reach()
	}
	if ways&8 != 0 {
		b.W = c.half()
	}
	if ways&16 != 0 {
		b.V = c.signedHalf()
	}
	return b
}

// about is a bound that has x: of each way something that x is of.
func (c *chance) about(x uint64) api.Bound {
	b := anything
	ways := c.next()
	if ways&1 != 0 {
		mask := c.number()
		b.T = tn(x&^mask, mask)
	}
	if ways&2 != 0 {
		y, z := c.number(), c.number()
		b.U = sp(min(x, y), max(x, z))
	}
	if ways&4 != 0 {
		y, z := signed(c.number()), signed(c.number())
		b.S = re(min(signed(x), y), max(signed(x), z))
	}
	if ways&8 != 0 {
		y, z := lowerHalf(c.number()), lowerHalf(c.number())
		b.W = sp(min(lowerHalf(x), y), max(lowerHalf(x), z))
	}
	if ways&16 != 0 {
		y, z := signedHalf(c.number()), signedHalf(c.number())
		b.V = re(min(signedHalf(x), y), max(signedHalf(x), z))
	}
	return b
}

// some has a bound of each sort, many has many.
func some() []api.Bound {
	l := []api.Bound{anything, alone(0), alone(5), alone(max31), alone(two31), alone(max32), alone(max63), alone(two63), alone(max64),
		withT(0, 7), withT(2, max64-7), withT(two31, max32-two31), withU(0, 7), withU(5, max64), withU(max32-2, two32+2), withS(-1, 1), withS(min63, -1), withS(0, max63),
		withW(0, 7), withW(max31, max32), withW(two31, max32), withV(-1, 1), withV(min31, -1), withV(0, max31)}
	c := chance(1)
	for range 40 {
		x := edges()[c.below(uint64(len(edges())))]
		l = append(l, c.about(x), synced(c.about(x), 3))
	}
	return l
}

func many() []api.Bound {
	l := some()
	c := chance(2)
	for range 20000 {
		l = append(l, c.bound(), c.about(c.number()))
	}
	return l
}

// candidates has numbers that may be of the bound: next to its ends, in all ways, and such as its bits leave.
func candidates(b api.Bound) []uint64 {
	l := []uint64{b.T.Value, b.T.Value | b.T.Mask, b.T.Value | b.T.Mask&0x5555555555555555, b.T.Value | b.T.Mask&0xaaaaaaaaaaaaaaaa, b.T.Value | b.T.Mask&two63, b.T.Value | b.T.Mask&max63}
	for _, x := range []uint64{b.U.Low, b.U.High, uint64(b.S.Low), uint64(b.S.High)} {
		l = append(l, x-1, x, x+1, b.T.Value|x&b.T.Mask)
		for _, w := range []uint64{b.W.Low, b.W.High, uint64(b.V.Low), uint64(b.V.High)} {
			l = append(l, x-lowerHalf(x)+lowerHalf(w))
		}
	}
	return l
}

// whole is a row of numbers without an end, so that nothing goes round in it; none, if high is below low.
type whole struct{ low, high *big.Int }

func bigs(x uint64) *big.Int   { return new(big.Int).SetUint64(x) }
func bigSpan(a api.Span) whole { return whole{bigs(a.Low), bigs(a.High)} }
func bigReach(a api.Reach) whole {
	return whole{big.NewInt(a.Low), big.NewInt(a.High)}
}

func (a whole) empty() bool { return a.high.Cmp(a.low) < 0 }

func (a whole) in(b whole) bool { return a.low.Cmp(b.low) >= 0 && a.high.Cmp(b.high) <= 0 }

func (a whole) met(b whole) whole {
	c := a
	if b.low.Cmp(c.low) > 0 {
		c.low = b.low
	}
	if b.high.Cmp(c.high) < 0 {
		c.high = b.high
	}
	return c
}

// below asks whether x is below 2 to the power of n.
func below(x *big.Int, n uint) bool { return x.Cmp(new(big.Int).Lsh(big.NewInt(1), n)) < 0 }

// signOf takes off 2 to the power of n, if x has the highest one of n bits.
func signOf(x *big.Int, n uint) *big.Int {
	if below(x, n-1) {
		return x
	}
	return new(big.Int).Sub(x, new(big.Int).Lsh(big.NewInt(1), n))
}

// bareOf puts it on again.
func bareOf(x *big.Int, n uint) *big.Int {
	if x.Sign() >= 0 {
		return x
	}
	return new(big.Int).Add(x, new(big.Int).Lsh(big.NewInt(1), n))
}

// told is a bound with rows of numbers without an end, and whether it has come to nothing.
type told struct {
	t          api.Tnum
	u, s, w, v whole
	over       bool
}

func (k *told) meet(a *whole, b whole) {
	*a = a.met(b)
	k.over = k.over || a.empty()
}

func (k *told) know(t api.Tnum) {
	met, some := tnum.Meet(k.t, t)
	k.t, k.over = met, k.over || !some
}

func leastOf(t api.Tnum) whole { return whole{bigs(t.Value), bigs(t.Value | t.Mask)} }

func leastSigned(t api.Tnum, n uint) whole {
	top := uint64(1) << (n - 1)
	return whole{signOf(bigs(t.Value|t.Mask&top), n), signOf(bigs(t.Value|t.Mask&(top-1)), n)}
}

// round is what the words say of a round, step by step.
func (k *told) round() {
	k.meet(&k.u, leastOf(k.t))
	k.meet(&k.s, leastSigned(k.t, 64))
	if below(k.u.low, 63) == below(k.u.high, 63) {
		k.meet(&k.s, whole{signOf(k.u.low, 64), signOf(k.u.high, 64)})
	}
	if (k.s.low.Sign() < 0) == (k.s.high.Sign() < 0) {
		k.meet(&k.u, whole{bareOf(k.s.low, 64), bareOf(k.s.high, 64)})
	}
	if k.over {
		return
	}
	k.know(tnum.Range(k.u.low.Uint64(), k.u.high.Uint64()))
	low := tn(k.t.Value%two32, k.t.Mask%two32)
	k.meet(&k.w, leastOf(low))
	k.meet(&k.v, leastSigned(low, 32))
	if below(k.w.low, 31) == below(k.w.high, 31) {
		k.meet(&k.v, whole{signOf(k.w.low, 32), signOf(k.w.high, 32)})
	}
	if (k.v.low.Sign() < 0) == (k.v.high.Sign() < 0) {
		k.meet(&k.w, whole{bareOf(k.v.low, 32), bareOf(k.v.high, 32)})
	}
	if k.over {
		return
	}
	r := tnum.Range(k.w.low.Uint64(), k.w.high.Uint64())
	k.know(tn(r.Value, r.Mask|(max64-max32)))
	k.sameUpper()
}

func (k *told) sameUpper() {
	up := new(big.Int).Rsh(k.u.low, 32)
	if up.Cmp(new(big.Int).Rsh(k.u.high, 32)) != 0 {
		return
	}
	up.Lsh(up, 32)
	k.meet(&k.w, whole{new(big.Int).Sub(k.u.low, up), new(big.Int).Sub(k.u.high, up)})
	k.meet(&k.u, whole{new(big.Int).Add(k.w.low, up), new(big.Int).Add(k.w.high, up)})
}

var (
	bigHalf       = bigSpan(sp(0, max32))
	bigSignedHalf = bigReach(re(min31, max31))
)

// synced is what so many rounds make of the bound, by the words.
func synced(b api.Bound, rounds int) api.Bound {
	k := told{t: b.T, u: bigSpan(b.U), s: bigReach(b.S), w: bigSpan(b.W), v: bigReach(b.V)}
	k.over = k.u.empty() || k.s.empty() || k.w.empty() || k.v.empty() || b.T.Value&b.T.Mask != 0 || !k.w.in(bigHalf) || !k.v.in(bigSignedHalf)
	for range rounds {
		if !k.over {
			k.round()
		}
	}
	if k.over {
		return nothing
	}
	return made(k.t, sp(k.u.low.Uint64(), k.u.high.Uint64()), re(k.s.low.Int64(), k.s.high.Int64()), sp(k.w.low.Uint64(), k.w.high.Uint64()), re(k.v.low.Int64(), k.v.high.Int64()))
}

// lowered is what Low of 8, 16 or 32 bits is, by the words.
func lowered(b api.Bound, bits uint) api.Bound {
	if b.U.High < b.U.Low || b.W.High < b.W.Low || b.S.High < b.S.Low || b.V.High < b.V.Low {
		return nothing
	}
	low := anything
	low.T = tn(b.T.Value%(1<<bits), b.T.Mask%(1<<bits))
	if bits == 32 {
		low.U, low.S, low.W, low.V = b.W, anything.S, b.W, b.V
	}
	return synced(low, 3)
}
