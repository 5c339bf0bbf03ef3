package bound_test

import (
	"math/big"
	"testing"

	"warden/alu"
	"warden/api"
	"warden/bound"
	"warden/span"
	"warden/tnum"
)

// codes has alu's first table, in its order.
var codes = []uint8{api.AluAdd, api.AluSub, api.AluMul, api.AluDiv, api.AluMod, api.AluOr, api.AluAnd, api.AluXor, api.AluLsh, api.AluRsh, api.AluArsh, api.AluNeg, api.AluMov}

// does answers what Does answers of a code that is one.
func does(t *testing.T, code uint8, wide bool, a, b api.Bound) api.Bound {
	t.Helper()
	c, e := bound.Does(code, wide, a, b)
	if e != api.OK {
		t.Fatalf("code %d: %v", code, e)
	}
	return c
}

// changed is Sync of Any, changed.
func changed(change func(b *api.Bound)) api.Bound {
	return synced(with(change), 3)
}

// low32 is Low of 32 of what is known of nothing.
var low32 = made(tn(0, max32), sp(0, max32), re(0, max32), sp(0, max32), re(min31, max31))

func TestP53WrongCodes(t *testing.T) {
	for code := range 256 {
		known := false
		for _, c := range codes {
			known = known || int(c) == code
		}
		for _, wide := range []bool{true, false} {
			for _, a := range append(empties(), anything, alone(5), withT(1, 1), withW(0, max64)) {
				c, e := bound.Does(uint8(code), wide, a, alone(5))
				switch {
				case known && e != api.OK:
					t.Errorf("code %d: %v", code, e)
				case !known && (e != api.ErrCode || c != api.Bound{}):
					t.Errorf("code %d: %+v, %v", code, c, e)
				}
			}
		}
	}
}

func TestP53None(t *testing.T) {
	for _, code := range codes {
		for _, wide := range []bool{true, false} {
			for _, a := range empties() {
				checkBounds(t, []row{
					{"none, and one", does(t, code, wide, a, alone(5)), nothing},
					{"one, and none", does(t, code, wide, alone(5), a), nothing},
					{"none, and none", does(t, code, wide, a, a), nothing},
				})
			}
		}
	}
}

// TestP53Odd: of bounds whose halves are beyond halves, or whose bits may not be, nothing is said but that it ends.
func TestP53Odd(t *testing.T) {
	odd := []api.Bound{withW(0, max64), withW(two32, two32), withV(min63, max63), withV(max63, max63), withV(min63, min63), withT(max64, max64), withT(1, 1), {}}
	for _, code := range codes {
		for _, a := range odd {
			for _, b := range odd {
				does(t, code, true, a, b)
				does(t, code, false, a, b)
			}
		}
	}
}

func TestP53Sums(t *testing.T) {
	add := func(a, b api.Bound) api.Bound { return does(t, api.AluAdd, true, a, b) }
	sub := func(a, b api.Bound) api.Bound { return does(t, api.AluSub, true, a, b) }
	neg := func(a api.Bound) api.Bound { return does(t, api.AluNeg, true, a, anything) }
	checkBounds(t, []row{
		{"5 + 5", add(alone(5), alone(5)), alone(10)},
		{"5 - 6", sub(alone(5), alone(6)), alone(max64)},
		{"-5", neg(alone(5)), alone(max64 - 4)},
		{"-0", neg(alone(0)), alone(0)},
		{"-2^63", neg(alone(two63)), alone(two63)},
		{"Any + 1", add(anything, alone(1)), anything},
		{"bits + 1", add(withT(2, max64-3), alone(1)), changed(func(b *api.Bound) { b.T = tn(3, max64-3) })},
		{"U + 1", add(withU(1, 2), alone(1)), changed(func(b *api.Bound) { b.U = sp(2, 3) })},
		{"U + 1, gone round", add(withU(1, max64), alone(1)), anything},
		{"S + 1", add(withS(-2, 1), alone(1)), changed(func(b *api.Bound) { b.S = re(-1, 2) })},
		{"S + 1, gone round", add(withS(-2, max63), alone(1)), anything},
		{"W + 1", add(withW(1, 2), alone(1)), changed(func(b *api.Bound) { b.W = sp(2, 3) })},
		{"W + 1, to the end", add(withW(two31-1, max32-1), alone(1)), changed(func(b *api.Bound) { b.W = sp(two31, max32) })},
		{"W + 1, gone round", add(withW(1, max32), alone(1)), anything},
		{"V + 1", add(withV(-2, 1), alone(1)), changed(func(b *api.Bound) { b.V = re(-1, 2) })},
		{"V + 1, to the end", add(withV(-2, max31-1), alone(1)), changed(func(b *api.Bound) { b.V = re(-1, max31) })},
		{"V + 1, gone round", add(withV(-2, max31), alone(1)), anything},
		{"V - 1, by a sum", add(withV(min31+1, 5), alone(max64)), changed(func(b *api.Bound) { b.V = re(min31, 4) })},
		{"V - 1, by a sum, gone round", add(withV(min31, 5), alone(max64)), anything},
		{"U - 1", sub(withU(1, 2), alone(1)), changed(func(b *api.Bound) { b.U = sp(0, 1) })},
		{"U - 1, gone round", sub(withU(0, 2), alone(1)), anything},
		{"9 - U", sub(alone(9), withU(3, 5)), changed(func(b *api.Bound) { b.U = sp(4, 6) })},
		{"S - 1", sub(withS(-2, 1), alone(1)), changed(func(b *api.Bound) { b.S = re(-3, 0) })},
		{"S - 1, gone round", sub(withS(min63, 1), alone(1)), anything},
		{"1 - S", sub(alone(1), withS(-2, 5)), changed(func(b *api.Bound) { b.S = re(-4, 3) })},
		{"W - 1", sub(withW(1, two31+1), alone(1)), changed(func(b *api.Bound) { b.W = sp(0, two31) })},
		{"W - 1, gone round", sub(withW(0, two31), alone(1)), anything},
		{"9 - W", sub(alone(9), withW(3, 5)), changed(func(b *api.Bound) { b.W = sp(4, 6) })},
		{"V - 1", sub(withV(min31+1, 1), alone(1)), changed(func(b *api.Bound) { b.V = re(min31, 0) })},
		{"V - 1, gone round", sub(withV(min31, 1), alone(1)), anything},
		{"-1 - V", sub(alone(max64), withV(min31, 1)), changed(func(b *api.Bound) { b.V = re(-2, max31) })},
		{"0 - V, gone round", sub(alone(0), withV(min31, 1)), anything},
		{"bits - 1", sub(withT(2, max64-3), alone(1)), changed(func(b *api.Bound) { b.T = tn(1, max64-3) })},
		{"-S", neg(withS(-2, 5)), changed(func(b *api.Bound) { b.S = re(-5, 2) })},
		{"-V", neg(withV(-2, 5)), changed(func(b *api.Bound) { b.V = re(-5, 2) })},
		{"-V, gone round", neg(withV(min31, 5)), anything},
		{"-S, gone round", neg(withS(min63, 5)), anything},
		{"-T", neg(withT(0, max64-3)), changed(func(b *api.Bound) { b.T = tn(0, max64-3) })},
	})
}

func TestP53Products(t *testing.T) {
	mul := func(a, b api.Bound) api.Bound { return does(t, api.AluMul, true, a, b) }
	div := func(a, b api.Bound) api.Bound { return does(t, api.AluDiv, true, a, b) }
	mod := func(a, b api.Bound) api.Bound { return does(t, api.AluMod, true, a, b) }
	checkBounds(t, []row{
		{"5 * 5", mul(alone(5), alone(5)), alone(25)},
		{"-1 * -1", mul(alone(max64), alone(max64)), alone(1)},
		{"bits * 4", mul(withT(1, max64-1), alone(4)), changed(func(b *api.Bound) { b.T = tn(4, max64-7) })},
		{"U * 3", mul(withU(1, 2), alone(3)), changed(func(b *api.Bound) { b.U, b.T = sp(3, 6), tnum.Mul(anything.T, tn(3, 0)) })},
		{"U * U, gone round", mul(withU(1, two32), withU(1, two32)), anything},
		{"U * U, not gone round", mul(withU(1, max32), withU(1, max32)), changed(func(b *api.Bound) { b.U = sp(1, max32*max32) })},
		{"W * W", mul(withW(2, 3), withW(5, 7)), changed(func(b *api.Bound) { b.W = sp(10, 21) })},
		{"W * W, to the end", mul(withW(1, 65535), withW(1, 65537)), changed(func(b *api.Bound) { b.W = sp(1, max32) })},
		{"W * W, gone round", mul(withW(1, 65536), withW(1, 65536)), anything},
		{"W * W, beyond all", mul(withW(1, max32), withW(1, max32)), anything},
		{"S * 1 is not told", mul(withS(-2, 1), withU(1, 1)), anything},
		{"V * 1 is not told", mul(withV(-2, 1), withU(1, 1)), anything},
		{"5 / 2", div(alone(5), alone(2)), alone(2)},
		{"5 / 0", div(alone(5), alone(0)), changed(func(b *api.Bound) { b.U = sp(0, 5) })},
		{"U / U", div(withU(10, 21), withU(2, 3)), changed(func(b *api.Bound) { b.U = sp(3, 10) })},
		{"U / U with 0", div(withU(10, 21), withU(0, 3)), changed(func(b *api.Bound) { b.U = sp(0, 21) })},
		{"Any / 0", div(anything, alone(0)), anything},
		{"7 % 4", mod(alone(7), alone(4)), changed(func(b *api.Bound) { b.U = sp(0, 3) })},
		{"7 % 0", mod(alone(7), alone(0)), changed(func(b *api.Bound) { b.U = sp(0, 7) })},
		{"7 % 1", mod(alone(7), alone(1)), alone(0)},
		{"Any % 8", mod(anything, alone(8)), changed(func(b *api.Bound) { b.U = sp(0, 7) })},
		{"U % 8", mod(withU(1, 3), alone(8)), changed(func(b *api.Bound) { b.U = sp(0, 3) })},
		{"only U counts: W / 1", div(withW(0, 7), alone(1)), anything},
		{"only U counts: T % T", mod(withT(0, 7), withT(1, 6)), anything},
	})
}

func TestP53Bits(t *testing.T) {
	and := func(a, b api.Bound) api.Bound { return does(t, api.AluAnd, true, a, b) }
	or := func(a, b api.Bound) api.Bound { return does(t, api.AluOr, true, a, b) }
	xor := func(a, b api.Bound) api.Bound { return does(t, api.AluXor, true, a, b) }
	checkBounds(t, []row{
		{"12 & 10", and(alone(12), alone(10)), alone(8)},
		{"12 | 10", or(alone(12), alone(10)), alone(14)},
		{"12 ^ 10", xor(alone(12), alone(10)), alone(6)},
		{"Any & 7", and(anything, alone(7)), changed(func(b *api.Bound) { b.U = sp(0, 7) })},
		{"U & Any", and(withU(5, 9), anything), changed(func(b *api.Bound) { b.U = sp(0, 9) })},
		{"Any & U", and(anything, withU(5, 9)), changed(func(b *api.Bound) { b.U = sp(0, 9) })},
		{"W & Any", and(withW(5, 9), anything), changed(func(b *api.Bound) { b.W = sp(0, 9) })},
		{"Any & W", and(anything, withW(5, 9)), changed(func(b *api.Bound) { b.W = sp(0, 9) })},
		{"V & Any is not told", and(withV(5, 9), anything), anything},
		{"S & Any is not told", and(withS(5, 9), anything), anything},
		{"U | Any", or(withU(5, 9), anything), changed(func(b *api.Bound) { b.U = sp(5, max64) })},
		{"Any | U", or(anything, withU(5, 9)), changed(func(b *api.Bound) { b.U = sp(5, max64) })},
		{"W | Any", or(withW(5, 9), anything), changed(func(b *api.Bound) { b.W = sp(5, max32) })},
		{"Any | W", or(anything, withW(5, 9)), changed(func(b *api.Bound) { b.W = sp(5, max32) })},
		{"Any | 4", or(anything, withT(4, 0)), changed(func(b *api.Bound) { b.T = tn(4, max64-4) })},
		{"U ^ Any", xor(withU(5, 9), anything), anything},
		{"bits ^ bits", xor(withT(4, 3), withT(6, 8)), changed(func(b *api.Bound) { b.T = tn(0, 11) })},
		{"bits ^ bits, known", xor(withT(4, 1), withT(2, 1)), changed(func(b *api.Bound) { b.T = tn(6, 1) })},
	})
}

func TestP53Shifts(t *testing.T) {
	lsh := func(a, b api.Bound) api.Bound { return does(t, api.AluLsh, true, a, b) }
	rsh := func(a, b api.Bound) api.Bound { return does(t, api.AluRsh, true, a, b) }
	arsh := func(a, b api.Bound) api.Bound { return does(t, api.AluArsh, true, a, b) }
	three := withT(3, max64-63)
	checkBounds(t, []row{
		{"5 << 1", lsh(alone(5), alone(1)), alone(10)},
		{"5 << 65", lsh(alone(5), alone(65)), alone(10)},
		{"5 << 63", lsh(alone(5), alone(63)), alone(two63)},
		{"5 << 64", lsh(alone(5), alone(64)), alone(5)},
		{"by six bits that are known", lsh(withU(1, 2), three), changed(func(b *api.Bound) { b.T, b.U = tn(0, max64-7), sp(8, 16) })},
		{"by five of six", lsh(withU(1, 2), withT(3, 32)), anything},
		{"by none", lsh(alone(1), anything), anything},
		{"by what U alone knows", lsh(alone(1), withU(3, 3)), anything},
		{"U << 3, gone round", lsh(withU(1, two63), three), changed(func(b *api.Bound) { b.T = tn(0, max64-7) })},
		{"W << 3 is not told", lsh(withW(1, 2), three), changed(func(b *api.Bound) { b.T = tn(0, max64-7) })},
		{"80 >> 3", rsh(alone(80), alone(3)), alone(10)},
		{"80 >> 67", rsh(alone(80), alone(67)), alone(10)},
		{"U >> 3", rsh(withU(80, 90), three), changed(func(b *api.Bound) { b.T, b.U = tn(0, max64>>3), sp(10, 11) })},
		{"T >> 3", rsh(withT(8, 23), three), changed(func(b *api.Bound) { b.T = tn(1, 2); b.U = sp(0, max64>>3) })},
		{"U >> not known", rsh(withU(80, 90), withT(3, 32)), changed(func(b *api.Bound) { b.U = sp(0, 90) })},
		{"U >> Any", rsh(withU(80, 90), anything), changed(func(b *api.Bound) { b.U = sp(0, 90) })},
		{"Any >> Any", rsh(anything, anything), anything},
		{"T >> Any is not told", rsh(withT(0, 7), anything), anything},
		{"-80 >> 3 with a sign", arsh(alone(max64-79), alone(3)), alone(max64 - 9)},
		{"-80 >> 67 with a sign", arsh(alone(max64-79), alone(67)), alone(max64 - 9)},
		{"S >> 3 with a sign", arsh(withS(-80, 90), three), changed(func(b *api.Bound) { b.S = re(-10, 11) })},
		{"T >> 3 with a sign", arsh(withT(8, two63), three), changed(func(b *api.Bound) { b.T, b.S = tn(1, 0xf<<60), span.Sar(span.All(), 3) })},
		{"S >> not known", arsh(withS(-80, 90), withT(3, 32)), anything},
		{"S >> Any", arsh(withS(-80, 90), anything), anything},
		{"5 >> Any with a sign", arsh(alone(5), anything), anything},
	})
}

func TestP53Mov(t *testing.T) {
	for _, b := range append(many()[:2000], withW(0, max64), withT(1, 1)) {
		if !bound.None(b) {
			checkBounds(t, []row{{"b itself", does(t, api.AluMov, true, anything, b), b}})
		}
	}
	checkBounds(t, []row{
		{"not wide", does(t, api.AluMov, false, anything, alone(two32+7)), alone(7)},
		{"not wide, by V", does(t, api.AluMov, false, anything, withV(-4, -1)), changed(func(b *api.Bound) { b.U = sp(max32-3, max32) })},
		{"not wide, of Any", does(t, api.AluMov, false, alone(5), anything), low32},
	})
}

func TestP53NotWide(t *testing.T) {
	do := func(code uint8, a, b api.Bound) api.Bound { return does(t, code, false, a, b) }
	byW := func(low, high uint64) api.Bound {
		return changed(func(b *api.Bound) { b.U = sp(low, high) })
	}
	up := uint64(7 * two32)
	checkBounds(t, []row{
		{"2^32 - 1 + 2", do(api.AluAdd, alone(max32), alone(2)), alone(1)},
		{"0 - 5", do(api.AluSub, alone(0), alone(5)), alone(max32 - 4)},
		{"-5", do(api.AluNeg, alone(5), anything), alone(max32 - 4)},
		{"5 * 5", do(api.AluMul, alone(up+5), alone(up+5)), alone(25)},
		{"7 / 2", do(api.AluDiv, alone(up+7), alone(up+2)), alone(3)},
		{"7 / 2^32", do(api.AluDiv, alone(7), alone(two32)), byW(0, 7)},
		{"7 % 4", do(api.AluMod, alone(up+7), alone(up+4)), byW(0, 3)},
		{"7 % 2^32", do(api.AluMod, alone(7), alone(two32)), byW(0, 7)},
		{"12 | 10", do(api.AluOr, alone(up+12), alone(10)), alone(14)},
		{"12 & 10", do(api.AluAnd, alone(up+12), alone(up+10)), alone(8)},
		{"12 ^ 10", do(api.AluXor, alone(up+12), alone(10)), alone(6)},
		{"W + 1", do(api.AluAdd, withW(1, 2), alone(1)), byW(2, 3)},
		{"Any + 1", do(api.AluAdd, anything, alone(1)), low32},
		{"W & Any", do(api.AluAnd, withW(5, 9), anything), made(tn(0, 15), sp(0, 9), re(0, 9), sp(0, 9), re(0, 9))},
		{"W / 2", do(api.AluDiv, withW(8, 20), alone(2)), byW(4, 10)},
		{"1 << 31", do(api.AluLsh, alone(1), alone(31)), alone(two31)},
		{"1 << 32", do(api.AluLsh, alone(1), alone(32)), alone(1)},
		{"1 << 63", do(api.AluLsh, alone(1), alone(63)), alone(two31)},
		{"3 << 31", do(api.AluLsh, alone(3), alone(31)), alone(two31)},
		{"by five bits that are known", do(api.AluLsh, alone(5), withT(3, max64-31)), alone(40)},
		{"by four of five", do(api.AluLsh, alone(5), withT(3, 16)), low32},
		{"by none", do(api.AluLsh, alone(5), anything), low32},
		{"2^32 + 80 >> 3", do(api.AluRsh, alone(two32+80), alone(3)), alone(10)},
		{"80 >> 35", do(api.AluRsh, alone(80), alone(35)), alone(10)},
		{"80 >> five bits of six", do(api.AluRsh, alone(80), withT(3, 32)), alone(10)},
		{"W >> four bits of five", do(api.AluRsh, withW(80, 90), withT(3, 16)), byW(0, 90)},
		{"W >> Any", do(api.AluRsh, withW(80, 90), anything), byW(0, 90)},
		{"Any >> Any", do(api.AluRsh, anything, anything), low32},
		{"2^31 >> 31 with a sign", do(api.AluArsh, alone(two31), alone(31)), alone(max32)},
		{"2^31 >> 63 with a sign", do(api.AluArsh, alone(two31), alone(63)), alone(max32)},
		{"2^31 - 1 >> 30 with a sign", do(api.AluArsh, alone(max31), alone(30)), alone(1)},
		{"upper bits do not count", do(api.AluArsh, alone(max64-max31), alone(3)), alone(0xf << 28)},
		{"upper bits do not count, either", do(api.AluArsh, alone(up+80), alone(3)), alone(10)},
		{"V >> 3 with a sign, by five bits of six", do(api.AluArsh, withV(-80, -8), withT(3, 32)), byW(max32-9, max32)},
		{"bits >> 3, whose 31st is known", do(api.AluArsh, withT(two31, 16), alone(3)), changed(func(b *api.Bound) { b.T = tn(0xf<<28, 2) })},
		{"bits >> 3, whose 31st is not known", do(api.AluArsh, withT(16, two31), alone(3)), changed(func(b *api.Bound) { b.T = tn(2, 0xf<<28) })},
		{"V >> four bits of five", do(api.AluArsh, withV(-80, -8), withT(3, 16)), low32},
		{"V >> Any", do(api.AluArsh, withV(-80, -8), anything), low32},
	})
}

// TestP53ShiftsByWhatOthersKnow: shifts are by what T knows of b itself, not by what b's other ways could tell it.
func TestP53ShiftsByWhatOthersKnow(t *testing.T) {
	upTo80 := changed(func(b *api.Bound) { b.U = sp(0, 80) })
	for _, b := range []api.Bound{withU(3, 3), withS(3, 3), withW(3, 3), withV(3, 3)} {
		checkBounds(t, []row{
			{"up", does(t, api.AluLsh, true, alone(80), b), anything},
			{"down", does(t, api.AluRsh, true, alone(80), b), upTo80},
			{"down with a sign", does(t, api.AluArsh, true, alone(80), b), anything},
			{"up, not wide", does(t, api.AluLsh, false, alone(80), b), low32},
			{"down, not wide", does(t, api.AluRsh, false, alone(80), b), upTo80},
			{"down with a sign, not wide", does(t, api.AluArsh, false, alone(80), b), low32},
			{"up, not wide, once T was told", does(t, api.AluLsh, false, alone(80), synced(b, 3)), alone(640)},
		})
	}
}

// wideDone is what the words say of 64 bits, with so many bits of b that shifts are by.
func wideDone(code uint8, a, b api.Bound, bits uint) api.Bound {
	c := anything
	n, known := uint(b.T.Value%(1<<bits)), b.T.Mask%(1<<bits) == 0
	switch code {
	case api.AluMov:
		return b
	case api.AluNeg:
		return wideDone(api.AluSub, alone(0), a, bits)
	case api.AluAdd:
		c.T, c.U, c.S = tnum.Add(a.T, b.T), span.Add(a.U, b.U), span.Plus(a.S, b.S)
		c.W, c.V = halves(bigSpan(a.W).plus(bigSpan(b.W))), signedHalves(bigReach(a.V).plus(bigReach(b.V)))
	case api.AluSub:
		c.T, c.U, c.S = tnum.Sub(a.T, b.T), span.Sub(a.U, b.U), span.Minus(a.S, b.S)
		c.W, c.V = halves(bigSpan(a.W).less(bigSpan(b.W))), signedHalves(bigReach(a.V).less(bigReach(b.V)))
	case api.AluMul:
		c.T, c.U = tnum.Mul(a.T, b.T), span.Mul(a.U, b.U)
		c.W = halves(bigSpan(a.W).times(bigSpan(b.W)))
	case api.AluDiv:
		c.U = span.Div(a.U, b.U)
	case api.AluMod:
		c.U = span.Mod(a.U, b.U)
	case api.AluAnd:
		c.T, c.U, c.W = tnum.And(a.T, b.T), sp(0, min(a.U.High, b.U.High)), sp(0, min(a.W.High, b.W.High))
	case api.AluOr:
		c.T, c.U, c.W = tnum.Or(a.T, b.T), sp(max(a.U.Low, b.U.Low), max64), sp(max(a.W.Low, b.W.Low), max32)
	case api.AluXor:
		c.T = tnum.Xor(a.T, b.T)
	case api.AluLsh:
		if known {
			c.T, c.U = tnum.Shl(a.T, n), span.Shl(a.U, n)
		}
	case api.AluRsh:
		c.U = sp(0, a.U.High)
		if known {
			c.T, c.U = tnum.Shr(a.T, n), span.Shr(a.U, n)
		}
	case api.AluArsh:
		if known {
			c.T, c.S = tnum.Sar(a.T, n), span.Sar(a.S, n)
		}
	}
	return synced(c, 3)
}

func (a whole) plus(b whole) whole {
	return whole{new(big.Int).Add(a.low, b.low), new(big.Int).Add(a.high, b.high)}
}

func (a whole) less(b whole) whole {
	return whole{new(big.Int).Sub(a.low, b.high), new(big.Int).Sub(a.high, b.low)}
}

func (a whole) times(b whole) whole {
	return whole{new(big.Int).Mul(a.low, b.low), new(big.Int).Mul(a.high, b.high)}
}

func halves(a whole) api.Span {
	if !a.in(bigHalf) {
		return sp(0, max32)
	}
	return sp(a.low.Uint64(), a.high.Uint64())
}

func signedHalves(a whole) api.Reach {
	if !a.in(bigSignedHalf) {
		return re(min31, max31)
	}
	return re(a.low.Int64(), a.high.Int64())
}

// narrowDone is what the words say of 32 bits.
func narrowDone(code uint8, a, b api.Bound) api.Bound {
	x, y := lowered(a, 32), lowered(b, 32)
	if code == api.AluArsh {
		x = anything
		x.T, x.S = tn(a.T.Value%two32, a.T.Mask%two32), a.V
		if x.T.Value >= two31 {
			x.T.Value += max64 - max32
		}
		if x.T.Mask >= two31 {
			x.T.Mask += max64 - max32
		}
		x = synced(x, 3)
	}
	if x == nothing || y == nothing {
		return nothing
	}
	if code == api.AluLsh || code == api.AluRsh || code == api.AluArsh {
		y.T = b.T
	}
	return lowered(wideDone(code, x, y, 5), 32)
}

// TestP53ByTheWords holds Does against what the words say, of many bounds, told each other and not.
func TestP53ByTheWords(t *testing.T) {
	c := chance(3)
	for range 4000 {
		a, b := c.operand(), c.operand()
		for _, code := range codes {
			if got, want := does(t, code, true, a, b), wideDone(code, a, b, 6); got != want {
				t.Fatalf("code %d, wide, of %+v and %+v: %+v, not %+v", code, a, b, got, want)
			}
			if got, want := does(t, code, false, a, b), narrowDone(code, a, b); got != want {
				t.Fatalf("code %d, not wide, of %+v and %+v: %+v, not %+v", code, a, b, got, want)
			}
		}
	}
}

// operand is a bound of some sort: such as have few bits are common, as shifts and products are by those.
func (c *chance) operand() api.Bound {
	switch c.below(6) {
	case 0:
		return alone(c.number())
	case 1:
		return c.bound()
	case 2:
		return synced(c.about(c.below(70)), 3)
	case 3:
		x := c.below(1 << 20)
		return synced(with(func(b *api.Bound) { b.U = sp(x, x+c.below(100)) }), 3)
	case 4:
		x := -int64(c.below(1 << 20))
		return synced(with(func(b *api.Bound) { b.S = re(x, x+int64(c.below(1<<10))) }), 3)
	}
	return synced(c.about(c.number()), 3)
}

// TestP54WhatIsDone: whatever is done with two numbers of two bounds is a number of what is done with the bounds.
func TestP54WhatIsDone(t *testing.T) {
	c := chance(4)
	done := 0
	for range 3000 {
		x, y := c.number(), c.number()
		a, b := c.around(x), c.around(y)
		ofA, ofB := numbersOf(a, x), numbersOf(b, y)
		for _, code := range codes {
			for _, wide := range []bool{true, false} {
				is := does(t, code, wide, a, b)
				for _, p := range ofA {
					for _, q := range ofB {
						z, _ := alu.Does(code, wide, p, q)
						if !bound.Has(is, z) {
							t.Fatalf("code %d, wide %v: %d of %d, %d is none of %+v, of %+v and %+v", code, wide, z, p, q, is, a, b)
						}
						done++
					}
				}
			}
		}
	}
	if done < 1_000_000 {
		t.Errorf("too few numbers: %d", done)
	}
}

// around is a bound that has x, and, as often as not, few others.
func (c *chance) around(x uint64) api.Bound {
	b := c.about(x)
	switch c.below(4) {
	case 0:
		b = alone(x)
	case 1:
		b.U = sp(x-min(x, c.below(9)), x+min(max64-x, c.below(9)))
		b.T, b.S, b.W, b.V = anything.T, anything.S, anything.W, anything.V
	case 2:
		return b // its ways have told each other nothing
	}
	return synced(b, 3)
}

// numbersOf has x, and those candidates that are of the bound; a few of them.
func numbersOf(b api.Bound, x uint64) []uint64 {
	l := []uint64{x}
	for _, y := range candidates(b) {
		if len(l) < 6 && isOf(b, y) {
			l = append(l, y)
		}
	}
	return l
}

// TestP54SmallBounds tries all pairs of small bounds, with all of their numbers.
func TestP54SmallBounds(t *testing.T) {
	var l []api.Bound
	for _, base := range []uint64{0, 29, max31 - 1, max32 - 1, max63 - 1, max64 - 3} {
		for i := range uint64(4) {
			for j := i; j < 4; j++ {
				if low, high := base+i, base+j; low <= high {
					l = append(l, synced(withU(low, high), 3))
				}
			}
		}
	}
	l = append(l, synced(withS(-2, 1), 3), synced(withV(-2, 1), 3), synced(withS(-2, -1), 3), synced(withT(0, 36), 3), synced(withT(1, two31+two63), 3))
	numbers := map[api.Bound][]uint64{}
	sample := []uint64{0, 1, 2, 3, 4, 29, 30, 31, 32, 33, 36, two31, two31 + 1, max31 - 1, max31, max32 - 2, max32 - 1, max32, two32, two32 + 1, max63, two63, two63 + 1, two63 + two31 + 1, max64 - 3, max64 - 2, max64 - 1, max64}
	for _, b := range l {
		for _, x := range sample {
			if isOf(b, x) {
				numbers[b] = append(numbers[b], x)
			}
		}
	}
	for _, code := range codes {
		for _, wide := range []bool{true, false} {
			for _, a := range l {
				for _, b := range l {
					is := does(t, code, wide, a, b)
					for _, p := range numbers[a] {
						for _, q := range numbers[b] {
							if z, _ := alu.Does(code, wide, p, q); !bound.Has(is, z) {
								t.Fatalf("code %d, wide %v: %d of %d, %d is none of %+v", code, wide, z, p, q, is)
							}
						}
					}
				}
			}
		}
	}
}

// TestP54TwoNumbersAlone: what is done with them is that number alone, but for AluMod, and AluDiv by 0.
func TestP54TwoNumbersAlone(t *testing.T) {
	for _, code := range codes {
		for _, wide := range []bool{true, false} {
			for _, x := range edges() {
				for _, y := range edges() {
					is := does(t, code, wide, bound.Const(x), bound.Const(y))
					z, _ := alu.Does(code, wide, x, y)
					byNothing := y == 0 || !wide && lowerHalf(y) == 0
					loose := code == api.AluMod || code == api.AluDiv && byNothing
					if !bound.Has(is, z) || !loose && is != alone(z) {
						t.Fatalf("code %d, wide %v, of %d and %d: %+v, not %d", code, wide, x, y, is, z)
					}
				}
			}
		}
	}
}

func TestP53Examples(t *testing.T) {
	if bound.Const(5).U != sp(5, 5) {
		t.Error("Const(5)")
	}
	if c := does(t, api.AluAnd, true, bound.Any(), bound.Const(7)); c.U != sp(0, 7) {
		t.Errorf("Any & 7: %+v", c)
	}
}
