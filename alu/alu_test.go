package alu_test

import (
	"math"
	"math/big"
	"testing"

	"warden/alu"
	"warden/api"
)

const (
	max32 = math.MaxUint32
	max64 = math.MaxUint64
)

// upper has bits that do not count where it is not wide; it is no constant, so that it may go round.
var upper = uint64(0xdeadbeef) << 32

// reckoning has the codes of the first table, in its order.
var reckoning = []uint8{api.AluAdd, api.AluSub, api.AluMul, api.AluDiv, api.AluMod, api.AluOr, api.AluAnd, api.AluXor, api.AluLsh, api.AluRsh, api.AluArsh, api.AluNeg, api.AluMov}

// comparing has the codes that compare, of the second table; asking has all of them.
var (
	comparing = []uint8{api.JmpGt, api.JmpGe, api.JmpLt, api.JmpLe, api.JmpSgt, api.JmpSge, api.JmpSlt, api.JmpSle}
	asking    = append([]uint8{api.JmpA, api.JmpEq, api.JmpNe, api.JmpSet}, comparing...)
)

// numbers has those next to the powers at which kinds of numbers end, shifts by all and more, and such as have no pattern.
func numbers() []uint64 {
	l := []uint64{0, 1, 2, 3, 5, 7, 10, 30, 31, 32, 33, 62, 63, 64, 65, 95, 96, 127, 128, 255, 256,
		0x55555555, 0xaaaaaaaa, 0x5555555555555555, 0xaaaaaaaaaaaaaaaa, 0x0123456789abcdef, 0xfedcba9876543210, upper, upper | 1, upper | 31, upper | 32, upper | 1<<31}
	for _, p := range []uint64{1 << 31, 1 << 32, 1 << 63, 0} {
		l = append(l, p-2, p-1, p, p+1, p+2, -p-1, -p, -p+1)
	}
	return l
}

func bitsOf(wide bool) uint {
	if wide {
		return 64
	}
	return 32
}

func power(bits uint) *big.Int {
	return new(big.Int).Lsh(big.NewInt(1), bits)
}

func modulo(x *big.Int, bits uint) *big.Int {
	return new(big.Int).Mod(x, power(bits))
}

func low(x uint64, bits uint) *big.Int {
	return modulo(new(big.Int).SetUint64(x), bits)
}

func signed(x uint64, bits uint) *big.Int {
	l := low(x, bits)
	if l.Cmp(power(bits-1)) >= 0 {
		l.Sub(l, power(bits))
	}
	return l
}

// bitwise puts a number together by what is said of each two bits.
func bitwise(x, y *big.Int, bits uint, say func(p, q uint) bool) *big.Int {
	z := new(big.Int)
	for i := range bits {
		if say(x.Bit(int(i)), y.Bit(int(i))) {
			z.Add(z, power(i))
		}
	}
	return z
}

// reckoned is what the first table says, in numbers without an end, taken modulo the power behind it.
func reckoned(code uint8, wide bool, a, b uint64) uint64 {
	bits := bitsOf(wide)
	x, y, z := low(a, bits), low(b, bits), new(big.Int)
	shift := uint(new(big.Int).Mod(y, big.NewInt(int64(bits))).Uint64())
	switch code {
	case api.AluAdd:
		z.Add(x, y)
	case api.AluSub:
		z.Sub(x, y)
	case api.AluMul:
		z.Mul(x, y)
	case api.AluDiv:
		if y.Sign() != 0 {
			z.Div(x, y)
		}
	case api.AluMod:
		z.Set(x)
		if y.Sign() != 0 {
			z.Mod(x, y)
		}
	case api.AluOr:
		z = bitwise(x, y, bits, func(p, q uint) bool { return p+q > 0 })
	case api.AluAnd:
		z = bitwise(x, y, bits, func(p, q uint) bool { return p+q == 2 })
	case api.AluXor:
		z = bitwise(x, y, bits, func(p, q uint) bool { return p+q == 1 })
	case api.AluLsh:
		z.Mul(x, power(shift))
	case api.AluRsh:
		z.Div(x, power(shift))
	case api.AluArsh:
		z.Div(signed(a, bits), power(shift)) // by a number above 0, it is rounded down
	case api.AluNeg:
		z.Neg(x)
	case api.AluMov:
		z.Set(y)
	}
	return modulo(z, bits).Uint64()
}

// asked is what the second table says.
func asked(code uint8, wide bool, a, b uint64) bool {
	bits := bitsOf(wide)
	order, signedOrder := low(a, bits).Cmp(low(b, bits)), signed(a, bits).Cmp(signed(b, bits))
	common := bitwise(low(a, bits), low(b, bits), bits, func(p, q uint) bool { return p == 1 && q == 1 })
	switch code {
	case api.JmpEq:
		return order == 0
	case api.JmpNe:
		return order != 0
	case api.JmpGt:
		return order > 0
	case api.JmpGe:
		return order >= 0
	case api.JmpLt:
		return order < 0
	case api.JmpLe:
		return order <= 0
	case api.JmpSgt:
		return signedOrder > 0
	case api.JmpSge:
		return signedOrder >= 0
	case api.JmpSlt:
		return signedOrder < 0
	case api.JmpSle:
		return signedOrder <= 0
	case api.JmpSet:
		return common.Sign() != 0
	}
	return true
}

// eachPair goes through all pairs of numbers, wide and not.
func eachPair(do func(wide bool, a, b uint64)) {
	l := numbers()
	for _, wide := range []bool{true, false} {
		for _, a := range l {
			for _, b := range l {
				do(wide, a, b)
			}
		}
	}
}

type deed struct {
	code    uint8
	a, b    uint64
	wide    uint64 // what is answered where it is wide
	notWide uint64
}

func checkDeeds(t *testing.T, l []deed) {
	t.Helper()
	for _, c := range l {
		if x, e := alu.Does(c.code, true, c.a, c.b); x != c.wide || e != api.OK {
			t.Errorf("Does(%d, wide, %#x, %#x) = %#x, %v; want %#x", c.code, c.a, c.b, x, e, c.wide)
		}
		if x, e := alu.Does(c.code, false, c.a, c.b); x != c.notWide || e != api.OK {
			t.Errorf("Does(%d, not wide, %#x, %#x) = %#x, %v; want %#x", c.code, c.a, c.b, x, e, c.notWide)
		}
	}
}

func TestP21DoesExamples(t *testing.T) {
	checkDeeds(t, []deed{
		{api.AluDiv, 7, 0, 0, 0},
		{api.AluMod, 7, 0, 7, 7},
		{api.AluAdd, max32, 2, 1<<32 + 1, 1},
		{api.AluArsh, 1 << 31, 31, 1, max32},
	})
}

func TestP21DoesOrdinary(t *testing.T) {
	checkDeeds(t, []deed{
		{api.AluAdd, 12, 30, 42, 42},
		{api.AluSub, 30, 12, 18, 18},
		{api.AluMul, 6, 7, 42, 42},
		{api.AluDiv, 43, 5, 8, 8},
		{api.AluMod, 43, 5, 3, 3},
		{api.AluOr, 0xc, 0xa, 0xe, 0xe},
		{api.AluAnd, 0xc, 0xa, 0x8, 0x8},
		{api.AluXor, 0xc, 0xa, 0x6, 0x6},
		{api.AluLsh, 5, 3, 40, 40},
		{api.AluRsh, 45, 3, 5, 5},
		{api.AluArsh, 45, 3, 5, 5},
		{api.AluNeg, 5, 9, max64 - 4, max32 - 4},
		{api.AluMov, 5, 9, 9, 9},
	})
}

func TestP21DoesGoesRound(t *testing.T) {
	checkDeeds(t, []deed{
		{api.AluAdd, max64, 1, 0, 0},
		{api.AluAdd, max32, 1, 1 << 32, 0},
		{api.AluAdd, 1 << 63, 1 << 63, 0, 0},
		{api.AluAdd, 1<<31 - 1, 1, 1 << 31, 1 << 31},
		{api.AluSub, 0, 1, max64, max32},
		{api.AluSub, 1 << 31, 1 << 32, ^uint64(1<<31 - 1), 1 << 31},
		{api.AluMul, 1 << 16, 1 << 16, 1 << 32, 0},
		{api.AluMul, 1 << 32, 1 << 32, 0, 0},
		{api.AluMul, max64, max64, 1, 1},
		{api.AluMul, 1 << 63, 3, 1 << 63, 0},
		{api.AluNeg, 0, 1, 0, 0},
		{api.AluNeg, 1 << 31, 0, 0xffffffff80000000, 1 << 31},
		{api.AluNeg, 1 << 63, 0, 1 << 63, 0},
		{api.AluNeg, max64, 0, 1, 1},
		{api.AluNeg, 1 << 32, 0, 0xffffffff00000000, 0},
	})
}

func TestP21DoesDivided(t *testing.T) {
	checkDeeds(t, []deed{
		// Neither has a sign there.
		{api.AluDiv, max64, 2, 1<<63 - 1, 1<<31 - 1},
		{api.AluMod, max64, 10, 5, 5},
		{api.AluDiv, 1, max64, 0, 0},
		{api.AluMod, 1, max64, 1, 1},
		{api.AluDiv, max64, max64, 1, 1},
		{api.AluMod, max64, max64, 0, 0},
		{api.AluDiv, 1 << 63, max64, 0, 0},
		{api.AluMod, 1 << 63, max64, 1 << 63, 0},
		{api.AluDiv, 0, 0, 0, 0},
		{api.AluMod, 0, 0, 0, 0},
		{api.AluDiv, max64, 0, 0, 0},
		{api.AluMod, max64, 0, max64, max32},
		// The lower half of what is divided by is 0, and its upper half is not.
		{api.AluDiv, 1<<33 | 9, 1 << 32, 2, 0},
		{api.AluMod, 1<<33 | 9, 1 << 32, 9, 9},
		{api.AluDiv, upper | 9, upper, 1, 0},
		{api.AluMod, upper | 9, upper, 9, 9},
		{api.AluDiv, upper | 43, 5, (upper | 43) / 5, 8},
	})
}

func TestP21DoesShifts(t *testing.T) {
	checkDeeds(t, []deed{
		{api.AluLsh, 3, 0, 3, 3}, {api.AluRsh, 3, 0, 3, 3}, {api.AluArsh, 3, 0, 3, 3},
		{api.AluLsh, 3, 31, 3 << 31, 1 << 31}, {api.AluLsh, 3, 32, 3 << 32, 3}, {api.AluLsh, 3, 33, 3 << 33, 6},
		{api.AluLsh, 3, 63, 1 << 63, 1 << 31}, {api.AluLsh, 3, 64, 3, 3}, {api.AluLsh, 3, 65, 6, 6}, {api.AluLsh, 3, 129, 6, 6},
		{api.AluRsh, max64, 31, 1<<33 - 1, 1}, {api.AluRsh, max64, 32, max32, max32}, {api.AluRsh, max64, 33, 1<<31 - 1, 1<<31 - 1},
		{api.AluRsh, max64, 63, 1, 1}, {api.AluRsh, max64, 64, max64, max32}, {api.AluRsh, max64, 65, 1<<63 - 1, 1<<31 - 1},
		{api.AluRsh, upper | 8, 3, (upper | 8) >> 3, 1},
		{api.AluArsh, 1 << 63, 62, max64 - 1, 0}, {api.AluArsh, 1 << 63, 63, max64, 0}, {api.AluArsh, 1 << 63, 64, 1 << 63, 0}, {api.AluArsh, 1 << 63, 65, 3 << 62, 0},
		{api.AluArsh, 1 << 31, 30, 2, max32 - 1}, {api.AluArsh, 1 << 31, 32, 0, 1 << 31}, {api.AluArsh, 1 << 31, 33, 0, 3 << 30},
		{api.AluArsh, 1<<31 - 1, 30, 1, 1}, {api.AluArsh, 1<<63 - 1, 62, 1, max32}, {api.AluArsh, max64, 63, max64, max32},
		{api.AluArsh, max64 - 9, 1, max64 - 4, max32 - 4},
		// The number of bits is taken modulo as well, however great it is, and it has no sign.
		{api.AluLsh, 1, max64, 1 << 63, 1 << 31}, {api.AluRsh, max64, max64, 1, 1}, {api.AluArsh, max64, max64, max64, max32},
		{api.AluLsh, 1, upper | 4, 16, 16}, {api.AluRsh, 16, upper | 4, 1, 1}, {api.AluArsh, 16, upper | 4, 1, 1},
		{api.AluLsh, 1, 1 << 63, 1, 1}, {api.AluLsh, 1, 1 << 32, 1, 1}, {api.AluLsh, 1, 1 << 5, 1 << 32, 1},
	})
}

func TestP21DoesUpperHalves(t *testing.T) {
	checkDeeds(t, []deed{
		{api.AluAdd, upper | 1, upper | 2, 2*upper + 3, 3},
		{api.AluSub, upper | 5, 2, upper | 3, 3},
		{api.AluMul, upper | 3, 2, 2*upper + 6, 6},
		{api.AluOr, upper | 1, 2, upper | 3, 3},
		{api.AluAnd, upper | 3, upper | 6, upper | 2, 2},
		{api.AluXor, upper | 3, 6, upper | 5, 5},
		{api.AluNeg, upper | 1, 0, -(upper | 1), max32},
		{api.AluMov, 0, upper | 7, upper | 7, 7},
		{api.AluMov, upper, 7, 7, 7},
		{api.AluRsh, upper, 4, upper >> 4, 0},
		{api.AluArsh, upper | 1<<4, 4, upper>>4 | 0xf<<60 | 1, 1},
	})
}

func TestP21DoesAsReckoned(t *testing.T) {
	for _, code := range reckoning {
		eachPair(func(wide bool, a, b uint64) {
			if x, e := alu.Does(code, wide, a, b); x != reckoned(code, wide, a, b) || e != api.OK {
				t.Errorf("Does(%d, %v, %#x, %#x) = %#x, %v; want %#x", code, wide, a, b, x, e, reckoned(code, wide, a, b))
			}
		})
	}
}

func TestP21DoesEveryShift(t *testing.T) {
	for _, code := range []uint8{api.AluLsh, api.AluRsh, api.AluArsh} {
		for _, wide := range []bool{true, false} {
			for _, a := range []uint64{1, 1 << 31, 1 << 63, 0x8123456789abcdef, 0x7123456779abcdef} {
				for b := range uint64(200) {
					if x, e := alu.Does(code, wide, a, b); x != reckoned(code, wide, a, b) || e != api.OK {
						t.Errorf("Does(%d, %v, %#x, %d) = %#x, %v; want %#x", code, wide, a, b, x, e, reckoned(code, wide, a, b))
					}
				}
			}
		}
	}
}

type question struct {
	a, b    uint64
	wide    string // a letter for each code of which it is so, in the order of letters
	notWide string
}

// letters stand for the codes of the second table, in the order of asking.
const letters = "aen&>)<(GELM"

// soOf tells of which codes it is so.
func soOf(t *testing.T, wide bool, a, b uint64) string {
	t.Helper()
	s := ""
	for i, code := range asking {
		is, e := alu.Asks(code, wide, a, b)
		if e != api.OK {
			t.Errorf("Asks(%d, %v, %#x, %#x): %v", code, wide, a, b, e)
		}
		if is {
			s += letters[i : i+1]
		}
	}
	return s
}

func TestP21Asks(t *testing.T) {
	const (
		same    = "ae&)(EM" // both are one number that is not 0
		zeros   = "ae)(EM"  // both are 0
		more    = "an>)GE"  // above, with a sign and without; no bit in common
		less    = "an<(LM"  // below, likewise
		moreSet = "an&>)GE" // above, with a bit in common
		lessSet = "an&<(LM" // below, likewise
		minus   = "an>)LM"  // above, and below with a sign
		plus    = "an<(GE"  // below, and above with a sign
		minSet  = "an&>)LM" // with a bit in common
		plusSet = "an&<(GE" // likewise
	)
	for _, c := range []question{
		{max64, 0, minus, minus},
		{0, max64, plus, plus},
		{0, 0, zeros, zeros},
		{7, 7, same, same},
		{9, 6, more, more},
		{6, 9, less, less},
		{7, 5, moreSet, moreSet},
		{5, 7, lessSet, lessSet},
		{1 << 31, 1<<31 - 1, more, minus},
		{1<<31 - 1, 1 << 31, less, plus},
		{1<<31 + 1, 1, moreSet, minSet},
		{max32, 0, more, minus},
		{max32, 1, moreSet, minSet},
		{1, max32, lessSet, plusSet},
		{max32, max32 - 1, moreSet, moreSet},
		{1 << 32, max32, more, plus},
		{1 << 32, 0, more, zeros},
		{1 << 63, 1<<63 - 1, minus, plus},
		{1<<63 - 1, 1 << 63, plus, minus},
		{1 << 63, 0, minus, zeros},
		{1 << 63, 1 << 63, same, zeros},
		{1<<63 | 1, 1, minSet, same},
		{max64, 1 << 63, moreSet, minus},
		{max64, max64, same, same},
		{upper | 4, 3, minus, more},
		{upper | 4, upper | 3, moreSet, more},
		{upper | 4, 1<<32 | 4, minSet, same},
		{upper, 1 << 32, minSet, zeros},
	} {
		if s := soOf(t, true, c.a, c.b); s != c.wide {
			t.Errorf("wide, of %#x and %#x it is %q; want %q", c.a, c.b, s, c.wide)
		}
		if s := soOf(t, false, c.a, c.b); s != c.notWide {
			t.Errorf("not wide, of %#x and %#x it is %q; want %q", c.a, c.b, s, c.notWide)
		}
	}
}

func TestP21AsksAsReckoned(t *testing.T) {
	for _, code := range asking {
		eachPair(func(wide bool, a, b uint64) {
			if is, e := alu.Asks(code, wide, a, b); is != asked(code, wide, a, b) || e != api.OK {
				t.Errorf("Asks(%d, %v, %#x, %#x) = %v, %v", code, wide, a, b, is, e)
			}
		})
	}
}

// others has the codes that a table does not have.
func others(table []uint8) []uint8 {
	has := map[uint8]bool{}
	for _, code := range table {
		has[code] = true
	}
	var l []uint8
	for code := range 256 {
		if !has[uint8(code)] {
			l = append(l, uint8(code))
		}
	}
	return l
}

func TestP21WrongCodes(t *testing.T) {
	if does, asks := len(others(reckoning)), len(others(asking)); does != 256-13 || asks != 256-12 {
		t.Fatal(does, asks)
	}
	eachWrong := func(code uint8, call func(wide bool, a, b uint64) bool) {
		for _, wide := range []bool{true, false} {
			for _, x := range [][2]uint64{{0, 0}, {7, 0}, {7, 7}, {upper | 7, 5}, {max64, max64}} {
				if !call(wide, x[0], x[1]) {
					t.Errorf("code %d, %v, %#x, %#x is taken, or has an answer", code, wide, x[0], x[1])
				}
			}
		}
	}
	for _, code := range others(reckoning) {
		eachWrong(code, func(wide bool, a, b uint64) bool {
			x, e := alu.Does(code, wide, a, b)
			return x == 0 && e == api.ErrCode
		})
	}
	for _, code := range others(asking) {
		eachWrong(code, func(wide bool, a, b uint64) bool {
			is, e := alu.Asks(code, wide, a, b)
			return !is && e == api.ErrCode
		})
	}
}

func TestP22Turned(t *testing.T) {
	pairs := map[uint8]uint8{
		api.JmpGt: api.JmpLt, api.JmpGe: api.JmpLe, api.JmpLt: api.JmpGt, api.JmpLe: api.JmpGe,
		api.JmpSgt: api.JmpSlt, api.JmpSge: api.JmpSle, api.JmpSlt: api.JmpSgt, api.JmpSle: api.JmpSge,
		api.JmpEq: api.JmpEq, api.JmpNe: api.JmpNe, api.JmpSet: api.JmpSet,
	}
	checkPairs(t, "Turned", alu.Turned, pairs)
	for code, turned := range pairs {
		eachPair(func(wide bool, a, b uint64) {
			x, e := alu.Asks(code, wide, a, b)
			y, f := alu.Asks(turned, wide, b, a)
			if x != y || e != api.OK || f != api.OK {
				t.Errorf("%d of %#x and %#x (%v) is %v, %v; turned, %v, %v", code, a, b, wide, x, e, y, f)
			}
		})
	}
}

func TestP22Other(t *testing.T) {
	pairs := map[uint8]uint8{
		api.JmpEq: api.JmpNe, api.JmpNe: api.JmpEq,
		api.JmpGt: api.JmpLe, api.JmpGe: api.JmpLt, api.JmpLt: api.JmpGe, api.JmpLe: api.JmpGt,
		api.JmpSgt: api.JmpSle, api.JmpSge: api.JmpSlt, api.JmpSlt: api.JmpSge, api.JmpSle: api.JmpSgt,
	}
	checkPairs(t, "Other", alu.Other, pairs)
	for code, other := range pairs {
		eachPair(func(wide bool, a, b uint64) {
			x, e := alu.Asks(code, wide, a, b)
			y, f := alu.Asks(other, wide, a, b)
			if x == y || e != api.OK || f != api.OK {
				t.Errorf("%d of %#x and %#x (%v) is %v, %v; the other one, %v, %v", code, a, b, wide, x, e, y, f)
			}
		})
	}
}

// checkPairs asks of all codes: those of pairs have what stands there, all others nothing, and who is asked twice is back.
func checkPairs(t *testing.T, name string, call func(uint8) (uint8, bool), pairs map[uint8]uint8) {
	t.Helper()
	for n := range 256 {
		code := uint8(n)
		want, has := pairs[code]
		got, is := call(code)
		if got != want || is != has {
			t.Errorf("%s(%d) = %d, %v; want %d, %v", name, code, got, is, want, has)
		}
		if back, is := call(got); has && (back != code || !is) {
			t.Errorf("%s of %s(%d) = %d, %v", name, name, code, back, is)
		}
	}
}

func TestP23LowerHalvesAlone(t *testing.T) {
	uppers := []uint64{1 << 32, 1 << 63, upper, max32 << 32}
	for _, a := range numbers() {
		for _, b := range numbers() {
			for _, code := range reckoning {
				x, _ := alu.Does(code, false, a, b)
				if x > max32 {
					t.Errorf("Does(%d, not wide, %#x, %#x) = %#x", code, a, b, x)
				}
				for i, u := range uppers {
					v := uppers[(i+1)%len(uppers)]
					if y, e := alu.Does(code, false, a^u, b^v); y != x || e != api.OK {
						t.Errorf("Does(%d, not wide, %#x, %#x) = %#x, %v; of the lower halves %#x", code, a^u, b^v, y, e, x)
					}
				}
			}
			for _, code := range asking {
				x, _ := alu.Asks(code, false, a, b)
				for i, u := range uppers {
					v := uppers[(i+1)%len(uppers)]
					if y, e := alu.Asks(code, false, a^u, b^v); y != x || e != api.OK {
						t.Errorf("Asks(%d, not wide, %#x, %#x) = %v, %v; of the lower halves %v", code, a^u, b^v, y, e, x)
					}
				}
			}
		}
	}
}

func TestP23DividedAndLeft(t *testing.T) {
	does := func(code uint8, wide bool, a, b uint64) uint64 {
		x, e := alu.Does(code, wide, a, b)
		if e != api.OK {
			t.Errorf("Does(%d, %v, %#x, %#x): %v", code, wide, a, b, e)
		}
		return x
	}
	eachPair(func(wide bool, a, b uint64) {
		times, left := does(api.AluDiv, wide, a, b), does(api.AluMod, wide, a, b)
		back := does(api.AluAdd, wide, left, does(api.AluMul, wide, times, b))
		if back != low(a, bitsOf(wide)).Uint64() {
			t.Errorf("%#x by %#x (%v) is %#x times, left %#x: in all %#x", a, b, wide, times, left, back)
		}
		if by := low(b, bitsOf(wide)).Uint64(); by != 0 && left >= by {
			t.Errorf("%#x by %#x (%v) leaves %#x", a, b, wide, left)
		}
	})
}
