package cond_test

import (
	"math/big"
	"testing"

	"warden/api"
	"warden/bound"
	"warden/tnum"
)

// chance makes numbers that have no pattern, the same in each run.
type chance uint64

func (c *chance) next() uint64 {
	*c += 0x9e3779b97f4a7c15
	z := uint64(*c)
	z = (z ^ z>>30) * 0xbf58476d1ce4e5b9
	z = (z ^ z>>27) * 0x94d049bb133111eb
	return z ^ z>>31
}

func (c *chance) below(n uint64) uint64 { return c.next() % n }

// number is, as often as not, one near to where halves and wholes end.
func (c *chance) number() uint64 {
	switch c.below(6) {
	case 0:
		return c.below(12)
	case 1:
		return -c.below(12)
	case 2:
		return uint64(1)<<c.below(64) + c.below(5) - 2
	case 3:
		return two31*c.below(6) + c.below(5) - 2
	case 4:
		return -(c.next() >> c.below(64))
	}
	return c.next() >> c.below(64)
}

// near is x, or a number next to it, or another one.
func (c *chance) near(x uint64) uint64 {
	switch c.below(3) {
	case 0:
		return x
	case 1:
		return x + c.below(9) - 4
	}
	return c.number()
}

func signedHalf(x uint64) int64 { return int64(int32(uint32(x))) }

// about is a bound that has x: of each way something that x is of, all told each other, or not.
func (c *chance) about(x uint64) api.Bound {
	b := anything
	ways := c.next()
	if ways&1 != 0 {
		mask := c.number()
		b.T = tn(x&^mask, mask)
	}
	if ways&2 != 0 {
		b.U = sp(min(x, c.near(x)), max(x, c.near(x)))
	}
	if n := int64(x); ways&4 != 0 {
		b.S = re(min(n, int64(c.near(x))), max(n, int64(c.near(x))))
	}
	if w := x % two32; ways&8 != 0 {
		b.W = sp(min(w, c.near(x)%two32), max(w, c.near(x)%two32))
	}
	if v := signedHalf(x); ways&16 != 0 {
		b.V = re(min(v, signedHalf(c.near(x))), max(v, signedHalf(c.near(x))))
	}
	switch {
	case ways&32 != 0:
		return bound.Sync(b)
	case ways&0x1c0 == 0:
		return bound.Const(x)
	}
	return b
}

// pair is two bounds that have numbers not far from each other, as often as not.
func (c *chance) pair() (a, b api.Bound, x, y uint64) {
	x = c.number()
	y = c.near(x)
	return c.about(x), c.about(y), x, y
}

// mixed is a bound whose ways are those of several, so that they may have no number in common.
func (c *chance) mixed() api.Bound {
	b := c.about(c.number())
	if c.below(3) == 0 {
		other := c.about(c.number())
		b.T, b.S, b.W = other.T, other.S, other.W
	}
	return b
}

// ends are those of a row of numbers without an end, so that nothing goes round.
type ends struct{ low, high *big.Int }

// whole is one way of a bound, in numbers without an end.
func whole(b api.Bound, wide, sign bool) ends {
	switch {
	case sign && wide:
		return ends{big.NewInt(b.S.Low), big.NewInt(b.S.High)}
	case sign:
		return ends{big.NewInt(b.V.Low), big.NewInt(b.V.High)}
	case wide:
		return ends{new(big.Int).SetUint64(b.U.Low), new(big.Int).SetUint64(b.U.High)}
	}
	return ends{new(big.Int).SetUint64(b.W.Low), new(big.Int).SetUint64(b.W.High)}
}

// put sets that way; false, if no number is left in it.
func put(b *api.Bound, wide, sign bool, e ends) bool {
	if e.high.Cmp(e.low) < 0 {
		return false
	}
	switch {
	case sign && wide:
		b.S = re(e.low.Int64(), e.high.Int64())
	case sign:
		b.V = re(e.low.Int64(), e.high.Int64())
	case wide:
		b.U = sp(e.low.Uint64(), e.high.Uint64())
	default:
		b.W = sp(e.low.Uint64(), e.high.Uint64())
	}
	return true
}

func greater(a, b *big.Int) *big.Int {
	if a.Cmp(b) > 0 {
		return a
	}
	return b
}

func lesser(a, b *big.Int) *big.Int {
	if a.Cmp(b) < 0 {
		return a
	}
	return b
}

// ordered is what the words say of the one that is above, or not below.
func ordered(a, b *api.Bound, wide, sign bool, gap int64) bool {
	x, y := whole(*a, wide, sign), whole(*b, wide, sign)
	more := big.NewInt(gap)
	low := greater(x.low, new(big.Int).Add(y.low, more))
	high := lesser(y.high, new(big.Int).Sub(x.high, more))
	return put(a, wide, sign, ends{low, x.high}) && put(b, wide, sign, ends{y.low, high})
}

// left is what the words say of one bound's ways where the other one's way is one number.
func left(b *api.Bound, other ends, wide bool) bool {
	if other.low.Cmp(other.high) != 0 {
		return true
	}
	power := uint(32)
	if wide {
		power = 64
	}
	one := big.NewInt(1)
	for _, sign := range []bool{false, true} {
		n, x := other.low, whole(*b, wide, sign)
		if half := new(big.Int).Lsh(one, power-1); sign && n.Cmp(half) >= 0 {
			n = new(big.Int).Sub(n, new(big.Int).Lsh(one, power))
		}
		low, high := x.low.Cmp(n) == 0, x.high.Cmp(n) == 0
		if low {
			x.low = new(big.Int).Add(x.low, one)
		}
		if high {
			x.high = new(big.Int).Sub(x.high, one)
		}
		if !put(b, wide, sign, x) {
			return false
		}
	}
	return true
}

// bit is what is known of a bit: 0, 1, or 2, if nothing is.
func bit(t api.Tnum, i int) int {
	if t.Mask>>i&1 != 0 {
		return 2
	}
	return int(t.Value >> i & 1)
}

func setBit(t *api.Tnum, i int, to uint64) {
	t.Mask &^= 1 << i
	t.Value = t.Value&^(1<<i) | to<<i
}

// onlyBit is the bit that the tnum has, if all of so many are known, and one of them alone is 1.
func onlyBit(t api.Tnum, size int) (int, bool) {
	found := -1
	for i := range size {
		switch {
		case bit(t, i) == 2 || bit(t, i) == 1 && found >= 0:
			return 0, false
		case bit(t, i) == 1:
			found = i
		}
	}
	return found, found >= 0
}

// common is what the words say of bits, so many of them, of which both have one.
func common(a, b *api.Bound, size int) bool {
	may := false
	for i := range size {
		may = may || bit(a.T, i) != 0 && bit(b.T, i) != 0
	}
	if !may {
		return false
	}
	ofA, oneA := onlyBit(a.T, size)
	ofB, oneB := onlyBit(b.T, size)
	if oneA {
		setBit(&b.T, ofA, 1)
	}
	if oneB {
		setBit(&a.T, ofB, 1)
	}
	return true
}

// parted is what they say of bits of which both have none.
func parted(a, b *api.Bound, size int) bool {
	for i := range size {
		p, q := bit(a.T, i), bit(b.T, i)
		switch {
		case p == 1 && q == 1:
			return false
		case p == 1:
			setBit(&b.T, i, 0)
		case q == 1:
			setBit(&a.T, i, 0)
		}
	}
	return true
}

// equalHalves is what they say of two lower halves that are one.
func equalHalves(a, b *api.Bound) bool {
	for i := range 32 {
		p, q := bit(a.T, i), bit(b.T, i)
		switch {
		case p != 2 && q != 2 && p != q:
			return false
		case p != 2:
			setBit(&b.T, i, uint64(p))
		case q != 2:
			setBit(&a.T, i, uint64(q))
		}
	}
	for _, sign := range []bool{false, true} {
		x, y := whole(*a, false, sign), whole(*b, false, sign)
		met := ends{greater(x.low, y.low), lesser(x.high, y.high)}
		if !put(a, false, sign, met) || !put(b, false, sign, met) {
			return false
		}
	}
	return true
}

// opposite has the codes that are so where the others are not.
func opposite(code uint8) uint8 {
	for _, pair := range [][2]uint8{{api.JmpEq, api.JmpNe}, {api.JmpGt, api.JmpLe}, {api.JmpGe, api.JmpLt}, {api.JmpSgt, api.JmpSle}, {api.JmpSge, api.JmpSlt}} {
		if pair[0] == code {
			return pair[1]
		}
		if pair[1] == code {
			return pair[0]
		}
	}
	return code
}

// told is what the words say of a and b, ahead of Sync.
func told(code uint8, wide, so bool, a, b *api.Bound) bool {
	size := 32
	if wide {
		size = 64
	}
	if !so {
		switch code {
		case api.JmpA:
			return false
		case api.JmpSet:
			return parted(a, b, size)
		}
		code = opposite(code)
	}
	switch code {
	case api.JmpEq:
		if !wide {
			return equalHalves(a, b)
		}
		*a = bound.Meet(*a, *b)
		*b = *a
		return *a != nothing
	case api.JmpNe:
		x, y := whole(*a, wide, false), whole(*b, wide, false)
		return left(a, y, wide) && left(b, x, wide)
	case api.JmpSet:
		return common(a, b, size)
	case api.JmpGt, api.JmpSgt:
		return ordered(a, b, wide, code == api.JmpSgt, 1)
	case api.JmpGe, api.JmpSge:
		return ordered(a, b, wide, code == api.JmpSge, 0)
	case api.JmpLt, api.JmpSlt:
		return ordered(b, a, wide, code == api.JmpSlt, 1)
	case api.JmpLe, api.JmpSle:
		return ordered(b, a, wide, code == api.JmpSle, 0)
	}
	return true
}

// refined is what the words say that Refine answers.
func refined(code uint8, wide, so bool, a, b api.Bound) (x, y api.Bound, is bool) {
	if bound.None(a) || bound.None(b) || !tnum.May(a.T) || !tnum.May(b.T) || !told(code, wide, so, &a, &b) {
		return nothing, nothing, false
	}
	x, y = bound.Sync(a), bound.Sync(b)
	if x == nothing || y == nothing {
		return nothing, nothing, false
	}
	return x, y, true
}

// TestP61ByTheWords holds Refine against what the words say, of many bounds, told each other and not.
func TestP61ByTheWords(t *testing.T) {
	c := chance(1)
	var yes, no int
	for range 20000 {
		a, b, _, _ := c.pair()
		if c.below(8) == 0 {
			a, b = c.mixed(), c.mixed()
		}
		for _, code := range codes {
			for i := range 4 {
				wide, so := i&1 != 0, i&2 != 0
				x, y, is := refine(t, code, wide, so, a, b)
				wantX, wantY, want := refined(code, wide, so, a, b)
				if x != wantX || y != wantY || is != want {
					t.Fatalf("code %d, wide %v, so %v, of %+v and %+v: %+v, %+v, %v, not %+v, %+v, %v", code, wide, so, a, b, x, y, is, wantX, wantY, want)
				}
				if is {
					yes++
				} else {
					no++
				}
			}
		}
	}
	if yes < 100_000 || no < 100_000 {
		t.Errorf("too few that may be, or that may not: %d, %d", yes, no)
	}
}
