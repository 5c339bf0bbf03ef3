package bound_test

import (
	"math"
	"testing"

	"warden/api"
	"warden/bound"
	"warden/tnum"
)

const (
	max31 = math.MaxInt32
	max32 = math.MaxUint32
	max63 = math.MaxInt64
	max64 = math.MaxUint64
	min31 = math.MinInt32
	min63 = math.MinInt64
	two31 = 1 << 31
	two32 = 1 << 32
	two63 = 1 << 63
)

var (
	anything = made(tn(0, max64), sp(0, max64), re(min63, max63), sp(0, max32), re(min31, max31))
	nothing  = made(tn(0, 0), sp(1, 0), re(1, 0), sp(1, 0), re(1, 0))
)

func tn(value, mask uint64) api.Tnum { return api.Tnum{Value: value, Mask: mask} }
func sp(low, high uint64) api.Span   { return api.Span{Low: low, High: high} }
func re(low, high int64) api.Reach   { return api.Reach{Low: low, High: high} }

func made(t api.Tnum, u api.Span, s api.Reach, w api.Span, v api.Reach) api.Bound {
	return api.Bound{T: t, U: u, S: s, W: w, V: v}
}

// with answers the bound of all numbers, changed.
func with(change func(b *api.Bound)) api.Bound {
	b := anything
	change(&b)
	return b
}

func withT(value, mask uint64) api.Bound {
	return with(func(b *api.Bound) { b.T = tn(value, mask) })
}

func withU(low, high uint64) api.Bound {
	return with(func(b *api.Bound) { b.U = sp(low, high) })
}

func withS(low, high int64) api.Bound {
	return with(func(b *api.Bound) { b.S = re(low, high) })
}

func withW(low, high uint64) api.Bound {
	return with(func(b *api.Bound) { b.W = sp(low, high) })
}

func withV(low, high int64) api.Bound {
	return with(func(b *api.Bound) { b.V = re(low, high) })
}

type row struct {
	what      string
	got, want api.Bound
}

func checkBounds(t *testing.T, rows []row) {
	t.Helper()
	for _, r := range rows {
		if r.got != r.want {
			t.Errorf("%s: %+v, not %+v", r.what, r.got, r.want)
		}
	}
}

type is struct {
	what      string
	got, want bool
}

func checkBools(t *testing.T, rows []is) {
	t.Helper()
	for _, r := range rows {
		if r.got != r.want {
			t.Errorf("%s: %v", r.what, r.got)
		}
	}
}

// edges has the numbers at which halves and wholes end, with their neighbours, and such as have no pattern.
func edges() []uint64 {
	return []uint64{0, 1, 2, 5, 7, 8, 31, 32, 63, 64, 255, 256, 65535, 65536,
		max31 - 1, max31, two31, two31 + 1, max32 - 1, max32, two32, two32 + 1, two32 + max31, two32 + two31, 2*two32 - 1, 2 * two32,
		max63 - 1, max63, two63, two63 + 1, max64 - max32, max64 - two31, max64 - max31, max64 - 7, max64 - 1, max64,
		0x0123456789abcdef, 0xfedcba9876543210, 0x5555555555555555, 0xaaaaaaaaaaaaaaaa}
}

// empties has bounds that are none: one way each, and all.
func empties() []api.Bound {
	return []api.Bound{nothing, withU(1, 0), withU(max64, 0), withS(1, 0), withS(max63, min63), withW(1, 0), withW(max32, 7), withV(1, 0), withV(max31, min31)}
}

// lowerHalf and signedHalf are what the words say, in numbers.
func lowerHalf(x uint64) uint64 { return x % two32 }

func signedHalf(x uint64) int64 {
	low := int64(x % two32)
	if low >= two31 {
		low -= two32
	}
	return low
}

func signed(x uint64) int64 {
	if x >= two63 {
		return -int64(max64-x) - 1
	}
	return int64(x)
}

// alone is x in all five ways.
func alone(x uint64) api.Bound {
	return made(tn(x, 0), sp(x, x), re(signed(x), signed(x)), sp(lowerHalf(x), lowerHalf(x)), re(signedHalf(x), signedHalf(x)))
}

// isOf asks of each way what the words ask.
func isOf(b api.Bound, x uint64) bool {
	bits := true
	for i := range 64 {
		if b.T.Mask>>i&1 == 0 && b.T.Value>>i&1 != x>>i&1 {
			bits = false
		}
	}
	return bits && b.U.Low <= x && x <= b.U.High &&
		b.S.Low <= signed(x) && signed(x) <= b.S.High &&
		b.W.Low <= lowerHalf(x) && lowerHalf(x) <= b.W.High &&
		b.V.Low <= signedHalf(x) && signedHalf(x) <= b.V.High
}

func TestP51Any(t *testing.T) {
	checkBounds(t, []row{{"Any", bound.Any(), anything}})
	for _, x := range edges() {
		if !bound.Has(bound.Any(), x) {
			t.Errorf("Any has not %d", x)
		}
	}
}

func TestP51Const(t *testing.T) {
	checkBounds(t, []row{
		{"0", bound.Const(0), made(tn(0, 0), sp(0, 0), re(0, 0), sp(0, 0), re(0, 0))},
		{"5", bound.Const(5), made(tn(5, 0), sp(5, 5), re(5, 5), sp(5, 5), re(5, 5))},
		{"2^31 - 1", bound.Const(max31), made(tn(max31, 0), sp(max31, max31), re(max31, max31), sp(max31, max31), re(max31, max31))},
		{"2^31", bound.Const(two31), made(tn(two31, 0), sp(two31, two31), re(two31, two31), sp(two31, two31), re(min31, min31))},
		{"2^32 - 1", bound.Const(max32), made(tn(max32, 0), sp(max32, max32), re(max32, max32), sp(max32, max32), re(-1, -1))},
		{"2^32", bound.Const(two32), made(tn(two32, 0), sp(two32, two32), re(two32, two32), sp(0, 0), re(0, 0))},
		{"2^63 - 1", bound.Const(max63), made(tn(max63, 0), sp(max63, max63), re(max63, max63), sp(max32, max32), re(-1, -1))},
		{"2^63", bound.Const(two63), made(tn(two63, 0), sp(two63, two63), re(min63, min63), sp(0, 0), re(0, 0))},
		{"2^64 - 1", bound.Const(max64), made(tn(max64, 0), sp(max64, max64), re(-1, -1), sp(max32, max32), re(-1, -1))},
	})
	for _, x := range edges() {
		c := bound.Const(x)
		checkBounds(t, []row{{"Const", c, alone(x)}, {"Sync of it", bound.Sync(c), c}})
		for _, y := range edges() {
			if bound.Has(c, y) != (x == y) {
				t.Errorf("Const(%d), and %d: %v", x, y, !(x == y))
			}
		}
		if y, only := bound.One(c); y != x || !only {
			t.Errorf("One of Const(%d): %d, %v", x, y, only)
		}
	}
}

func TestP51None(t *testing.T) {
	for _, b := range empties() {
		if !bound.None(b) {
			t.Errorf("%+v is none", b)
		}
	}
	for _, b := range []api.Bound{anything, alone(0), alone(max64), withT(1, 1), withU(7, 7), withS(-7, -7), withW(7, 7), withV(-7, -7), withW(0, max64), withV(min63, max63), {}} {
		if bound.None(b) {
			t.Errorf("%+v is not none", b)
		}
	}
	// five ways that have each a number, but none in common, are not none: that is for Sync to find
	apart := withU(7, 7)
	apart.T = tn(8, 0)
	checkBools(t, []is{{"ways apart", bound.None(apart), false}})
}

func TestP51Has(t *testing.T) {
	checkBools(t, []is{
		{"T", bound.Has(withT(4, 3), 6), true},
		{"not T", bound.Has(withT(4, 3), 8), false},
		{"not T's upper bit", bound.Has(withT(4, 3), two63+6), false},
		{"U", bound.Has(withU(3, 5), 3), true},
		{"U's end", bound.Has(withU(3, 5), 5), true},
		{"below U", bound.Has(withU(3, 5), 2), false},
		{"above U", bound.Has(withU(3, 5), 6), false},
		{"S", bound.Has(withS(-2, 1), max64), true},
		{"S's Low", bound.Has(withS(-2, 1), max64-1), true},
		{"below S", bound.Has(withS(-2, 1), max64-2), false},
		{"S's High", bound.Has(withS(-2, 1), 1), true},
		{"above S", bound.Has(withS(-2, 1), 2), false},
		{"W", bound.Has(withW(3, 5), two63+two32+4), true},
		{"not W", bound.Has(withW(3, 5), two63+two32+6), false},
		{"not W, though it is as a whole", bound.Has(withW(3, 5), 2), false},
		{"V", bound.Has(withV(-2, 1), 5*two32+max32), true},
		{"below V", bound.Has(withV(-2, 1), 5*two32+max32-2), false},
		{"V's High", bound.Has(withV(-2, 1), 5*two32+1), true},
		{"above V", bound.Has(withV(-2, 1), 5*two32+2), false},
		{"V at -2^31", bound.Has(withV(min31, min31), two31), true},
		{"V past 2^31 - 1", bound.Has(withV(max31, max31), two31), false},
	})
	for _, b := range some() {
		for _, x := range edges() {
			if bound.Has(b, x) != isOf(b, x) {
				t.Errorf("Has(%+v, %d): %v", b, x, bound.Has(b, x))
			}
		}
	}
	for _, b := range empties() {
		for _, x := range edges() {
			if bound.Has(b, x) {
				t.Errorf("%+v has %d", b, x)
			}
		}
	}
}

func TestP51One(t *testing.T) {
	sevenBits := func(change func(b *api.Bound)) api.Bound {
		b := withT(7, 0)
		change(&b)
		return b
	}
	for _, r := range []struct {
		what string
		b    api.Bound
		x    uint64
		only bool
	}{
		{"bits alone", withT(7, 0), 7, true},
		{"bits of 0", withT(0, 0), 0, true},
		{"a bit not known", withT(6, 1), 0, false},
		{"the highest bit not known", withT(6, two63), 0, false},
		{"Any", anything, 0, false},
		{"U has it not", sevenBits(func(b *api.Bound) { b.U = sp(8, 9) }), 0, false},
		{"S has it not", sevenBits(func(b *api.Bound) { b.S = re(-9, 6) }), 0, false},
		{"W has it not", sevenBits(func(b *api.Bound) { b.W = sp(0, 6) }), 0, false},
		{"V has it not", sevenBits(func(b *api.Bound) { b.V = re(8, 9) }), 0, false},
		{"only U tells", withU(7, 7), 0, false},
		{"nothing", nothing, 0, false},
	} {
		if x, only := bound.One(r.b); x != r.x || only != r.only {
			t.Errorf("%s: %d, %v", r.what, x, only)
		}
	}
}

func TestP51In(t *testing.T) {
	for _, a := range empties() {
		for _, b := range append(empties(), anything, alone(5)) {
			if !bound.In(a, b) {
				t.Errorf("%+v is none, and in %+v", a, b)
			}
		}
		for _, b := range []api.Bound{anything, alone(5), withU(0, 7)} {
			if bound.In(b, a) {
				t.Errorf("%+v is in %+v, that is none", b, a)
			}
		}
	}
	checkBools(t, []is{
		{"T less", bound.In(withT(4, 1), withT(4, 3)), true},
		{"T more", bound.In(withT(4, 3), withT(4, 1)), false},
		{"T other", bound.In(withT(4, 0), withT(5, 0)), false},
		{"U less", bound.In(withU(3, 5), withU(3, 5)), true},
		{"U lower", bound.In(withU(2, 5), withU(3, 5)), false},
		{"U higher", bound.In(withU(3, 6), withU(3, 5)), false},
		{"S less", bound.In(withS(-3, 5), withS(-3, 5)), true},
		{"S lower", bound.In(withS(-4, 5), withS(-3, 5)), false},
		{"S higher", bound.In(withS(-3, 6), withS(-3, 5)), false},
		{"W less", bound.In(withW(4, 4), withW(3, 5)), true},
		{"W lower", bound.In(withW(2, 5), withW(3, 5)), false},
		{"W higher", bound.In(withW(3, 6), withW(3, 5)), false},
		{"V less", bound.In(withV(-1, 1), withV(-3, 5)), true},
		{"V lower", bound.In(withV(-4, 5), withV(-3, 5)), false},
		{"V higher", bound.In(withV(-3, 6), withV(-3, 5)), false},
		{"5 in Any", bound.In(alone(5), anything), true},
		{"Any in 5", bound.In(anything, alone(5)), false},
		// each way is asked for itself: what one could tell another one counts only behind Sync
		{"ways not told", bound.In(withU(5, 5), alone(5)), false},
		{"ways told", bound.In(bound.Sync(withU(5, 5)), alone(5)), true},
	})
	for _, b := range some() {
		if !bound.In(b, anything) || !bound.In(b, b) || !bound.In(bound.Sync(b), b) {
			t.Errorf("%+v is in itself, and in Any; so is what Sync leaves of it", b)
		}
	}
}

func TestP51SyncOfNothing(t *testing.T) {
	for _, b := range empties() {
		checkBounds(t, []row{{"none", bound.Sync(b), nothing}})
	}
	apart := func(change func(b *api.Bound)) api.Bound {
		b := alone(7)
		change(&b)
		return b
	}
	checkBounds(t, []row{
		{"T may not be", bound.Sync(withT(1, 1)), nothing},
		{"T may not be, in its highest bit", bound.Sync(withT(two63, max64)), nothing},
		{"W past half", bound.Sync(withW(0, two32)), nothing},
		{"W beyond half", bound.Sync(withW(two32, two32)), nothing},
		{"W to the end of all", bound.Sync(withW(0, max64)), nothing},
		{"V past half with a sign", bound.Sync(withV(0, two31)), nothing},
		{"V below it", bound.Sync(withV(min31-1, 0)), nothing},
		{"V of all", bound.Sync(withV(min63, max63)), nothing},
		{"the zero value is 0 alone", bound.Sync(api.Bound{}), alone(0)},
		{"half to its end", bound.Sync(withW(max32, max32)), made(tn(max32, max64-max32), sp(max32, max64), re(min63+max32, max63), sp(max32, max32), re(-1, -1))},
		{"another T", bound.Sync(apart(func(b *api.Bound) { b.T = tn(8, 3) })), nothing},
		{"another U", bound.Sync(apart(func(b *api.Bound) { b.U = sp(8, 9) })), nothing},
		{"another S", bound.Sync(apart(func(b *api.Bound) { b.S = re(-9, 6) })), nothing},
		{"another W", bound.Sync(apart(func(b *api.Bound) { b.W = sp(0, 6) })), nothing},
		{"another V", bound.Sync(apart(func(b *api.Bound) { b.V = re(8, 9) })), nothing},
	})
}

func TestP51SyncOfOneWay(t *testing.T) {
	low := func(mask uint64) api.Bound {
		return made(tn(0, mask), sp(0, mask), re(0, int64(mask)), sp(0, mask), re(0, int64(mask)))
	}
	checkBounds(t, []row{
		{"Any", bound.Sync(anything), anything},
		{"three bits", bound.Sync(withT(0, 7)), low(7)},
		{"U to 7", bound.Sync(withU(0, 7)), low(7)},
		{"S to 7", bound.Sync(withS(0, 7)), low(7)},
		{"S below 0", bound.Sync(withS(-8, -1)), made(tn(max64-7, 7), sp(max64-7, max64), re(-8, -1), sp(max32-7, max32), re(-8, -1))},
		{"S about 0 tells nothing", bound.Sync(withS(-1, 0)), withS(-1, 0)},
		{"U about the middle tells nothing", bound.Sync(withU(max63, two63)), withU(max63, two63)},
		{"W to 7", bound.Sync(withW(0, 7)), made(tn(0, max64-max32+7), sp(0, max64-max32+7), re(min63, max63-max32+7), sp(0, 7), re(0, 7))},
		{"V to 7", bound.Sync(withV(0, 7)), made(tn(0, max64-max32+7), sp(0, max64-max32+7), re(min63, max63-max32+7), sp(0, 7), re(0, 7))},
		{"W about the middle tells nothing", bound.Sync(withW(max31, two31)), withW(max31, two31)},
		{"V about 0 tells nothing", bound.Sync(withV(-1, 0)), withV(-1, 0)},
	})
}

// TestP51Steps has, for each of a round's steps, a bound in which that step tells something; without it the answer would be another one.
func TestP51Steps(t *testing.T) {
	upper := uint64(max64 - max32)
	checkBounds(t, []row{
		{"1: T to U", bound.Sync(withT(16, two63+3)), made(tn(16, two63+3), sp(16, two63+19), re(min63+16, 19), sp(16, 19), re(16, 19))},
		{"2: T to S", bound.Sync(withT(two32, two63+two32*2)), made(tn(two32, two63+two32*2), sp(two32, two63+two32*3), re(min63+two32, two32*3), sp(0, 0), re(0, 0))},
		{"3: U to S", bound.Sync(withU(two63+9, max64-5)), made(tn(two63, max63), sp(two63+9, max64-5), re(min63+9, -6), sp(0, max32), re(min31, max31))},
		{"4: S to U", bound.Sync(withS(9, two32*5)), made(tn(0, two32*8-1), sp(9, two32*5), re(9, two32*5), sp(0, max32), re(min31, max31))},
		{"5: U to T", bound.Sync(withU(17, 22)), made(tn(16, 7), sp(17, 22), re(17, 22), sp(17, 22), re(17, 22))},
		{"6: T to W", bound.Sync(withT(two31+3, upper+8)), made(tn(two31+3, upper+8), sp(two31+3, upper+two31+11), re(min63+two31+3, max63-max32+two31+11), sp(two31+3, two31+11), re(min31+3, min31+11))},
		{"7: T to V", bound.Sync(withT(3, upper+two31+8)), made(tn(3, upper+two31+8), sp(3, upper+two31+11), re(min63+3, max63-max32+two31+11), sp(3, two31+11), re(min31+3, 11))},
		{"8: W to V", bound.Sync(withW(two31+1, two31+6)), made(tn(two31, upper+7), sp(two31, upper+two31+7), re(min63+two31, max63-max32+two31+7), sp(two31+1, two31+6), re(min31+1, min31+6))},
		{"9: V to W", bound.Sync(withV(-6, -2)), made(tn(max32-7, upper+7), sp(max32-7, max64), re(min63+max32-7, max63), sp(max32-5, max32-1), re(-6, -2))},
		{"10: W to T", bound.Sync(withW(4, 5)), made(tn(4, upper+1), sp(4, upper+5), re(min63+4, max63-max32+5), sp(4, 5), re(4, 5))},
		{"11: U to W", bound.Sync(withU(5*two32+3, 5*two32+4)), made(tn(5*two32, 7), sp(5*two32+3, 5*two32+4), re(5*two32+3, 5*two32+4), sp(3, 4), re(3, 4))},
		{"11: W to U", bound.Sync(with(func(b *api.Bound) { b.U, b.W = sp(5*two32, 5*two32+10), sp(3, 4) })), made(tn(5*two32, 7), sp(5*two32+3, 5*two32+4), re(5*two32+3, 5*two32+4), sp(3, 4), re(3, 4))},
		{"11: another upper half", bound.Sync(withU(5*two32-1, 5*two32)), made(tn(4*two32, 2*two32-1), sp(5*two32-1, 5*two32), re(5*two32-1, 5*two32), sp(0, max32), re(min31, max31))},
	})
}

// TestP51ThreeRounds has bounds of which the third round tells something, and of which a fourth one would.
func TestP51ThreeRounds(t *testing.T) {
	upper := uint64(max64 - max32)
	third := with(func(b *api.Bound) { b.T, b.V = tn(4, max64-4), re(258, 260) })
	fourth := with(func(b *api.Bound) { b.T, b.U, b.W = tn(1, 5*two31-2), sp(10, two32+2), sp(4, 11) })
	checkBounds(t, []row{
		{"the third", bound.Sync(third), made(tn(260, upper), sp(260, upper+260), re(min63+260, max63-max32+260), sp(260, 260), re(260, 260))},
		{"no fourth", bound.Sync(fourth), made(tn(11, 0), sp(11, 11), re(10, 11), sp(11, 11), re(11, 11))},
		{"but by Sync again", bound.Sync(bound.Sync(fourth)), alone(11)},
	})
}

// TestP51Order has bounds of which three rounds would leave something else, were the two steps to change places.
func TestP51Order(t *testing.T) {
	for _, r := range []struct {
		what string
		b    api.Bound
	}{
		{"3 and 4", made(tn(0, 0xffffd1c87fffffff), sp(15, 1<<62+1), re(-10, 2*two32), sp(8, max32-15), re(min31, max31))},
		{"4 and 5", made(tn(0, 2*two32+15), sp(0, max64), re(9, 3*two31-2), sp(0, max32), re(0, 9))},
		{"8 and 9", made(tn(0, max64-188), sp(0, max64), re(min63, max63), sp(3, 1<<29-2), re(-2, 4))},
		{"9 and 10", made(tn(0, 0xfffd29ffd37cf89d), sp(0, max64), re(min63, max63), sp(0, max32), re(1, 2))},
		{"10 and 11", made(tn(1, 0x185c72482cfe), sp(18, 5*two31+1), re(min63, max63), sp(0, max32), re(6, 19))},
	} {
		checkBounds(t, []row{{r.what, bound.Sync(r.b), synced(r.b, 3)}})
	}
}

// TestP51ByTheWords holds Sync against what the words say, in numbers alone, of many bounds.
func TestP51ByTheWords(t *testing.T) {
	for _, b := range many() {
		if got, want := bound.Sync(b), synced(b, 3); got != want {
			t.Fatalf("Sync(%+v): %+v, not %+v", b, got, want)
		}
	}
}

func TestP51Meet(t *testing.T) {
	for _, a := range empties() {
		for _, b := range []api.Bound{anything, alone(5), nothing} {
			checkBounds(t, []row{{"none, and one", bound.Meet(a, b), nothing}, {"one, and none", bound.Meet(b, a), nothing}})
		}
	}
	checkBounds(t, []row{
		{"Any and Any", bound.Meet(anything, anything), anything},
		{"5 and Any", bound.Meet(alone(5), anything), alone(5)},
		{"Any and 5", bound.Meet(anything, alone(5)), alone(5)},
		{"5 and 6", bound.Meet(alone(5), alone(6)), nothing},
		{"T apart", bound.Meet(withT(0, 1), withT(2, 1)), nothing},
		{"U apart", bound.Meet(withU(0, 1), withU(2, 3)), nothing},
		{"S apart", bound.Meet(withS(-2, -1), withS(0, 3)), nothing},
		{"W apart", bound.Meet(withW(0, 1), withW(2, 3)), nothing},
		{"V apart", bound.Meet(withV(-2, -1), withV(0, 3)), nothing},
		{"T met", bound.Meet(withT(0, max64-1), withT(0, 3)), bound.Sync(withT(0, 2))},
		{"U met", bound.Meet(withU(3, 9), withU(5, 12)), bound.Sync(withU(5, 9))},
		{"S met", bound.Meet(withS(-3, 9), withS(-5, 2)), bound.Sync(withS(-3, 2))},
		{"W met", bound.Meet(withW(3, 9), withW(5, 12)), bound.Sync(withW(5, 9))},
		{"V met", bound.Meet(withV(-3, 9), withV(-5, 2)), bound.Sync(withV(-3, 2))},
		{"U and T", bound.Meet(withU(0, 7), withT(6, max64-7)), alone(6)},
		{"W past half with one that is not", bound.Meet(withW(0, two32), withW(0, 7)), bound.Sync(withW(0, 7))},
		{"W past half in both", bound.Meet(withW(0, two32), withW(0, max64)), nothing},
		{"V past half with a sign in both", bound.Meet(withV(0, two31), withV(0, max63)), nothing},
	})
	l := some()
	for _, a := range l {
		for _, b := range l {
			met := bound.Meet(a, b)
			if met != bound.Meet(b, a) {
				t.Fatalf("Meet of %+v and %+v is not that of the latter and the former", a, b)
			}
			for _, x := range edges() {
				if bound.Has(met, x) != (isOf(a, x) && isOf(b, x)) {
					t.Fatalf("Meet(%+v, %+v), and %d: %v", a, b, x, bound.Has(met, x))
				}
			}
		}
	}
}

func TestP52Low(t *testing.T) {
	b := with(func(b *api.Bound) { b.W, b.V = sp(max31, max31+5), re(min31+1, max31-1) })
	checkBounds(t, []row{
		{"8 of 0x1ff", bound.Low(alone(0x1ff), 8), alone(0xff)},
		{"16 of 2^32 + 2^16 + 7", bound.Low(alone(two32+1<<16+7), 16), alone(7)},
		{"32 of 2^63 + 7", bound.Low(alone(two63+7), 32), alone(7)},
		{"8 of Any", bound.Low(anything, 8), bound.Sync(withU(0, 255))},
		{"16 of Any", bound.Low(anything, 16), bound.Sync(withU(0, 65535))},
		{"32 of Any", bound.Low(anything, 32), made(tn(0, max32), sp(0, max32), re(0, max32), sp(0, max32), re(min31, max31))},
		{"8 of 0 to 7 by U alone: T does not know it", bound.Low(withU(0, 7), 8), bound.Sync(withU(0, 255))},
		{"8 of a W, likewise", bound.Low(withW(0, 7), 8), bound.Sync(withU(0, 255))},
		{"16 of a W, likewise", bound.Low(withW(0, 7), 16), bound.Sync(withU(0, 65535))},
		{"32 by T", bound.Low(withT(two63+6, two32+1), 32), bound.Sync(withT(6, 1))},
		{"32 by W", bound.Low(withW(3, 7), 32), bound.Sync(withU(3, 7))},
		{"32 by V", bound.Low(withV(-4, -1), 32), made(tn(max32-3, 3), sp(max32-3, max32), re(max32-3, max32), sp(max32-3, max32), re(-4, -1))},
		{"32 by W and V that tell each other nothing", bound.Low(b, 32), bound.Sync(with(func(c *api.Bound) { c.T, c.U, c.W, c.V = tn(0, max32), b.W, b.W, b.V }))},
		{"32 of a U alone: W does not know it", bound.Low(withU(0, 7), 32), bound.Low(anything, 32)},
		{"32 of an S alone, likewise", bound.Low(withS(-1, 0), 32), bound.Low(anything, 32)},
		{"8 of a W past half: it does not count", bound.Low(withW(0, max64), 8), bound.Low(anything, 8)},
		{"32 of a W past half", bound.Low(withW(0, two32), 32), nothing},
		{"32 of a V past half", bound.Low(withV(0, two31), 32), nothing},
		{"8 of a T that may not be", bound.Low(withT(128, 128), 8), nothing},
		{"8 of one that may, in its lowest bits", bound.Low(withT(256, 257), 8), bound.Sync(withU(0, 1))},
		{"16 of a T that may not be", bound.Low(withT(1<<15, 1<<15), 16), nothing},
		{"32 of a T that may not be", bound.Low(withT(two31, two31), 32), nothing},
	})
	for _, e := range empties() {
		for _, bits := range []uint{8, 16, 32} {
			checkBounds(t, []row{{"of none", bound.Low(e, bits), nothing}})
		}
	}
	odd := append(empties(), anything, alone(max64), withT(1, 1), withW(0, max64), withV(min63, 0), withU(3, 4))
	for _, o := range append(odd, some()...) {
		for _, bits := range []uint{0, 1, 7, 9, 15, 17, 24, 31, 33, 63, 64, 65, 128, math.MaxUint} {
			checkBounds(t, []row{{"of other numbers of bits", bound.Low(o, bits), o}})
		}
	}
}

func TestP52ByTheWords(t *testing.T) {
	for _, b := range many() {
		for _, bits := range []uint{8, 16, 32} {
			if got, want := bound.Low(b, bits), lowered(b, bits); got != want {
				t.Fatalf("Low(%+v, %d): %+v, not %+v", b, bits, got, want)
			}
		}
	}
}

// TestP54RoundsLoseNothing: what is a number of a bound stays one.
func TestP54RoundsLoseNothing(t *testing.T) {
	for _, b := range many() {
		s := bound.Sync(b)
		for _, x := range candidates(b) {
			if isOf(b, x) != bound.Has(s, x) {
				t.Fatalf("Sync(%+v): %+v, and %d: %v", b, s, x, bound.Has(s, x))
			}
			for _, bits := range []uint{8, 16, 32} {
				if low := x % (1 << bits); isOf(b, x) && !bound.Has(bound.Low(b, bits), low) {
					t.Fatalf("Low(%+v, %d) has not %d", b, bits, low)
				}
			}
		}
	}
}

// TestP54RoundsOfAFewBits tries all bounds over a few bits, with all of their numbers.
func TestP54RoundsOfAFewBits(t *testing.T) {
	for _, base := range []uint64{0, max32 - 3, max64 - 7, two63 - 4, max31 - 3} {
		for mask := range uint64(8) {
			for i := range uint64(8) {
				for j := i; j < 8; j++ {
					b := with(func(b *api.Bound) {
						b.T = tnum.Join(tnum.Const(base+i), tnum.Const(base+i^mask))
						b.U = sp(min(base+i, base+j), max(base+i, base+j))
					})
					s := bound.Sync(b)
					for k := range uint64(12) {
						if x := base + k - 2; isOf(b, x) != bound.Has(s, x) {
							t.Fatalf("Sync(%+v): %+v, and %d: %v", b, s, x, bound.Has(s, x))
						}
					}
				}
			}
		}
	}
}
