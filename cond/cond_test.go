package cond_test

import (
	"math"
	"slices"
	"testing"

	"warden/api"
	"warden/bound"
	"warden/cond"
)

const (
	max31 = math.MaxInt32
	max32 = math.MaxUint32
	max63 = math.MaxInt64
	max64 = math.MaxUint64
	min31 = math.MinInt32
	min63 = math.MinInt64
	two31 = 1 << 31
	two32 = 1 << 32
	two63 = 1 << 63
)

// codes has alu's second table, in its order.
var codes = []uint8{api.JmpA, api.JmpEq, api.JmpNe, api.JmpGt, api.JmpGe, api.JmpLt, api.JmpLe, api.JmpSgt, api.JmpSge, api.JmpSlt, api.JmpSle, api.JmpSet}

var (
	anything = api.Bound{T: tn(0, max64), U: sp(0, max64), S: re(min63, max63), W: sp(0, max32), V: re(min31, max31)}
	nothing  = api.Bound{U: sp(1, 0), S: re(1, 0), W: sp(1, 0), V: re(1, 0)}
)

func tn(value, mask uint64) api.Tnum { return api.Tnum{Value: value, Mask: mask} }
func sp(low, high uint64) api.Span   { return api.Span{Low: low, High: high} }
func re(low, high int64) api.Reach   { return api.Reach{Low: low, High: high} }

// with answers the bound of all numbers, changed.
func with(change func(b *api.Bound)) api.Bound {
	b := anything
	change(&b)
	return b
}

func withT(value, mask uint64) api.Bound {
	return with(func(b *api.Bound) { b.T = tn(value, mask) })
}

func withU(low, high uint64) api.Bound {
	return with(func(b *api.Bound) { b.U = sp(low, high) })
}

func withS(low, high int64) api.Bound {
	return with(func(b *api.Bound) { b.S = re(low, high) })
}

func withW(low, high uint64) api.Bound {
	return with(func(b *api.Bound) { b.W = sp(low, high) })
}

func withV(low, high int64) api.Bound {
	return with(func(b *api.Bound) { b.V = re(low, high) })
}

// empties has bounds without a number: in each way, and in all.
func empties() []api.Bound {
	return []api.Bound{nothing, withU(1, 0), withU(max64, 0), withS(1, 0), withS(max63, min63), withW(1, 0), withW(max32, 7), withV(1, 0), withV(max31, min31)}
}

// refine answers what Refine answers of a code that is one.
func refine(t *testing.T, code uint8, wide, so bool, a, b api.Bound) (x, y api.Bound, is bool) {
	t.Helper()
	x, y, is, e := cond.Refine(code, wide, so, a, b)
	if e != api.OK {
		t.Fatalf("code %d: %v", code, e)
	}
	return x, y, is
}

// row asks what becomes of a and b; each x and y is what Sync is to make the answer of.
type row struct {
	what     string
	code     uint8
	wide, so bool
	a, b     api.Bound
	x, y     api.Bound
}

// check holds rows against what is answered: where they say nothing of x and y, it must be false.
func check(t *testing.T, rows []row) {
	t.Helper()
	for _, r := range rows {
		x, y, is := refine(t, r.code, r.wide, r.so, r.a, r.b)
		if r.x == (api.Bound{}) && r.y == (api.Bound{}) {
			if is || x != nothing || y != nothing {
				t.Errorf("%s, wide %v, so %v: %+v, %+v, %v, not false", r.what, r.wide, r.so, x, y, is)
			}
			continue
		}
		if want := bound.Sync(r.x); !is || x != want {
			t.Errorf("%s, wide %v, so %v: x: %+v, %v, not %+v", r.what, r.wide, r.so, x, is, want)
		}
		if want := bound.Sync(r.y); y != want {
			t.Errorf("%s, wide %v, so %v: y: %+v, not %+v", r.what, r.wide, r.so, y, want)
		}
	}
}

func TestP61Examples(t *testing.T) {
	x, y, is := refine(t, api.JmpGt, true, true, bound.Any(), bound.Const(7))
	if !is || x.U != sp(8, max64) || y != bound.Const(7) {
		t.Errorf("Any above 7: %+v, %+v, %v", x, y, is)
	}
}

func TestP61WrongCodes(t *testing.T) {
	for code := range 256 {
		known := slices.Contains(codes, uint8(code))
		for i := range 4 {
			wide, so := i&1 != 0, i&2 != 0
			for _, a := range append(empties(), anything, bound.Const(5), withT(1, 1), withW(0, max64)) {
				x, y, is, e := cond.Refine(uint8(code), wide, so, a, bound.Const(5))
				switch {
				case known && e != api.OK:
					t.Errorf("code %d: %v", code, e)
				case !known && (e != api.ErrCode || is || x != api.Bound{} || y != api.Bound{}):
					t.Errorf("code %d: %+v, %+v, %v, %v", code, x, y, is, e)
				}
			}
		}
	}
}

// TestP61None: where one has no number, whichever way tells that, there is nothing to know.
func TestP61None(t *testing.T) {
	for _, code := range codes {
		for i := range 4 {
			wide, so := i&1 != 0, i&2 != 0
			for _, a := range append(empties(), withT(1, 1), withT(two63, max64)) {
				for _, b := range []api.Bound{a, anything, bound.Const(5), bound.Const(1)} {
					check(t, []row{
						{what: "none, and one", code: code, wide: wide, so: so, a: a, b: b},
						{what: "one, and none", code: code, wide: wide, so: so, a: b, b: a},
					})
				}
			}
		}
	}
}

// TestP61WithoutANumber: ways that have each a number, but none in common, are for Sync to find.
func TestP61WithoutANumber(t *testing.T) {
	apart := with(func(b *api.Bound) { b.T, b.U = tn(8, 0), sp(7, 7) })
	for _, code := range codes {
		for i := range 4 {
			wide, so := i&1 != 0, i&2 != 0
			check(t, []row{
				{what: "apart, and Any", code: code, wide: wide, so: so, a: apart, b: anything},
				{what: "Any, and apart", code: code, wide: wide, so: so, a: anything, b: apart},
			})
		}
	}
}

func TestP61Always(t *testing.T) {
	for _, wide := range []bool{true, false} {
		check(t, []row{
			{"always", api.JmpA, wide, true, withU(1, 2), withV(-2, -1), withU(1, 2), withV(-2, -1)},
			{"always, alike", api.JmpA, wide, true, bound.Const(7), bound.Const(7), bound.Const(7), bound.Const(7)},
			{what: "never", code: api.JmpA, wide: wide, so: false, a: withU(1, 2), b: withV(-2, -1)},
			{what: "never of Any", code: api.JmpA, wide: wide, so: false, a: anything, b: anything},
		})
	}
}

// TestP61Ordinary asks each code of any number and of 7, wide and not wide, so and not so, and the other way round.
func TestP61Ordinary(t *testing.T) {
	seven := bound.Const(7)
	half7 := with(func(b *api.Bound) { b.T, b.W, b.V = tn(7, max64-max32), sp(7, 7), re(7, 7) })
	for _, r := range []struct {
		what                           string
		code                           uint8
		wide, notWide, isNot, isNotLow api.Bound
	}{
		{"eq", api.JmpEq, seven, half7, anything, anything},
		{"ne", api.JmpNe, anything, anything, seven, half7},
		{"gt", api.JmpGt, withU(8, max64), withW(8, max32), withU(0, 7), withW(0, 7)},
		{"ge", api.JmpGe, withU(7, max64), withW(7, max32), withU(0, 6), withW(0, 6)},
		{"lt", api.JmpLt, withU(0, 6), withW(0, 6), withU(7, max64), withW(7, max32)},
		{"le", api.JmpLe, withU(0, 7), withW(0, 7), withU(8, max64), withW(8, max32)},
		{"sgt", api.JmpSgt, withS(8, max63), withV(8, max31), withS(min63, 7), withV(min31, 7)},
		{"sge", api.JmpSge, withS(7, max63), withV(7, max31), withS(min63, 6), withV(min31, 6)},
		{"slt", api.JmpSlt, withS(min63, 6), withV(min31, 6), withS(7, max63), withV(7, max31)},
		{"sle", api.JmpSle, withS(min63, 7), withV(min31, 7), withS(8, max63), withV(8, max31)},
		{"set", api.JmpSet, anything, anything, withT(0, max64-7), withT(0, max64-7)},
	} {
		turned := map[uint8]uint8{api.JmpGt: api.JmpLt, api.JmpGe: api.JmpLe, api.JmpLt: api.JmpGt, api.JmpLe: api.JmpGe, api.JmpSgt: api.JmpSlt, api.JmpSge: api.JmpSle, api.JmpSlt: api.JmpSgt, api.JmpSle: api.JmpSge}
		other, is := turned[r.code]
		if !is {
			other = r.code
		}
		check(t, []row{
			{r.what, r.code, true, true, anything, seven, r.wide, seven},
			{r.what, r.code, true, false, anything, seven, r.isNot, seven},
			{r.what, r.code, false, true, anything, seven, r.notWide, seven},
			{r.what, r.code, false, false, anything, seven, r.isNotLow, seven},
			{r.what + " turned", other, true, true, seven, anything, seven, r.wide},
			{r.what + " turned", other, true, false, seven, anything, seven, r.isNot},
			{r.what + " turned", other, false, true, seven, anything, seven, r.notWide},
			{r.what + " turned", other, false, false, seven, anything, seven, r.isNotLow},
		})
	}
}

func TestP61Eq(t *testing.T) {
	up := uint64(9 * two32)
	odd, even := withT(1, max64-1), withT(0, max64-1)
	upper := withT(up, max32)
	for _, eq := range []struct {
		code uint8
		so   bool
	}{{api.JmpEq, true}, {api.JmpNe, false}} {
		both := with(func(b *api.Bound) {
			b.T, b.U, b.S, b.W, b.V = tn(1, max64-1), sp(3, 90), re(-5, 80), sp(4, 70), re(-6, 60)
		})
		check(t, []row{
			{"all five met", eq.code, true, eq.so, odd, with(func(b *api.Bound) { b.U, b.S, b.W, b.V = sp(3, 90), re(-5, 80), sp(4, 70), re(-6, 60) }), both, both},
			{"spans met", eq.code, true, eq.so, withU(3, 9), withU(5, 20), withU(5, 9), withU(5, 9)},
			{what: "spans apart", code: eq.code, wide: true, so: eq.so, a: withU(3, 9), b: withU(10, 20)},
			{what: "reaches apart", code: eq.code, wide: true, so: eq.so, a: withS(-9, -3), b: withS(-2, 20)},
			{what: "bits apart", code: eq.code, wide: true, so: eq.so, a: odd, b: even},
			{what: "halves apart", code: eq.code, wide: true, so: eq.so, a: withW(3, 9), b: withW(10, 20)},
			{what: "signed halves apart", code: eq.code, wide: true, so: eq.so, a: withV(-9, -3), b: withV(-2, 20)},
			{what: "upper bits apart", code: eq.code, wide: true, so: eq.so, a: upper, b: bound.Const(5)},
			{"not wide, upper bits apart", eq.code, false, eq.so, upper, bound.Const(5), bound.Const(up + 5), bound.Const(5)},
			{"not wide, each keeps its own upper bits", eq.code, false, eq.so, withT(up, 15), withT(3*up+2, 8),
				withT(up+2, 8), withT(3*up+2, 8)},
			{what: "not wide, bits apart", code: eq.code, wide: false, so: eq.so, a: odd, b: even},
			{what: "not wide, bits apart, turned", code: eq.code, wide: false, so: eq.so, a: even, b: odd},
			{what: "not wide, the highest of the lower bits apart", code: eq.code, wide: false, so: eq.so, a: withT(two31, max64-two31), b: withT(0, max64-two31)},
			{"not wide, the lowest of the upper bits apart", eq.code, false, eq.so, withT(two32, max64-two32), withT(0, max64-two32), withT(two32, max64-two32), withT(0, max64-two32)},
			{"not wide, halves met", eq.code, false, eq.so, withW(3, 9), withW(5, 20), withW(5, 9), withW(5, 9)},
			{"not wide, signed halves met", eq.code, false, eq.so, withV(-9, 9), withV(-5, 20), withV(-5, 9), withV(-5, 9)},
			{what: "not wide, halves apart", code: eq.code, wide: false, so: eq.so, a: withW(3, 9), b: withW(10, 20)},
			{what: "not wide, signed halves apart", code: eq.code, wide: false, so: eq.so, a: withV(-9, -3), b: withV(-2, 20)},
			{"not wide, wholes are not met", eq.code, false, eq.so, withU(up, up+two32), withS(-9*two32, -5*two32), withU(up, up+two32), withS(-9*two32, -5*two32)},
		})
	}
}

func TestP61Ne(t *testing.T) {
	for _, ne := range []struct {
		code uint8
		so   bool
	}{{api.JmpNe, true}, {api.JmpEq, false}} {
		c, so := ne.code, ne.so
		minus5 := withU(max64-4, max64-4)
		check(t, []row{
			{"at the low end", c, true, so, withU(5, 9), withU(5, 5), withU(6, 9), withU(5, 5)},
			{"at the high end", c, true, so, withU(5, 9), withU(9, 9), withU(5, 8), withU(9, 9)},
			{"between", c, true, so, withU(5, 9), withU(7, 7), withU(5, 9), withU(7, 7)},
			{"off", c, true, so, withU(5, 9), withU(10, 10), withU(5, 9), withU(10, 10)},
			{"of the other one", c, true, so, withU(5, 5), withU(5, 9), withU(5, 5), withU(6, 9)},
			{"two, and one", c, true, so, withU(5, 6), withU(5, 5), withU(6, 6), withU(5, 5)},
			{what: "the only one", code: c, wide: true, so: so, a: withU(5, 5), b: withU(5, 5)},
			{what: "the only one, least", code: c, wide: true, so: so, a: withU(0, 0), b: withU(0, 0)},
			{what: "the only one, greatest", code: c, wide: true, so: so, a: withU(max64, max64), b: withU(max64, max64)},
			{"the only ones, apart", c, true, so, withU(5, 5), withU(6, 6), withU(5, 5), withU(6, 6)},
			{"the least of all", c, true, so, anything, withU(0, 0), withU(1, max64), withU(0, 0)},
			{"the greatest of all", c, true, so, anything, withU(max64, max64), withU(0, max64-1), withU(max64, max64)},
			{"the least with a sign", c, true, so, anything, withU(two63, two63), withS(min63+1, max63), withU(two63, two63)},
			{"the greatest with a sign", c, true, so, anything, withU(max63, max63), withS(min63, max63-1), withU(max63, max63)},
			{"at the low end with a sign", c, true, so, withS(-5, 9), minus5, withS(-4, 9), minus5},
			{"at the high end with a sign", c, true, so, withS(-9, -5), minus5, withS(-9, -6), minus5},
			{"between with a sign", c, true, so, withS(-6, -4), minus5, withS(-6, -4), minus5},
			{what: "the only one with a sign", code: c, wide: true, so: so, a: withS(-5, -5), b: minus5},
			{what: "the least with a sign alone", code: c, wide: true, so: so, a: withS(min63, min63), b: withU(two63, two63)},
			{what: "the greatest with a sign alone", code: c, wide: true, so: so, a: withS(max63, max63), b: withU(max63, max63)},
			{"the only one without a number, but not of U", c, true, so, withU(4, 9), with(func(b *api.Bound) { b.T, b.S, b.W, b.V = tn(4, 0), re(4, 4), sp(4, 4), re(4, 4) }),
				withU(4, 9), bound.Const(4)},
			{"of T nothing is told", c, true, so, withT(5, 2), withU(5, 5), withT(5, 2), withU(5, 5)},
			{"of halves nothing is told", c, true, so, with(func(b *api.Bound) { b.W, b.V = sp(5, 9), re(5, 9) }), withU(5, 5), with(func(b *api.Bound) { b.W, b.V = sp(5, 9), re(5, 9) }), withU(5, 5)},
		})
	}
}

func TestP61NeNotWide(t *testing.T) {
	for _, ne := range []struct {
		code uint8
		so   bool
	}{{api.JmpNe, true}, {api.JmpEq, false}} {
		c, so := ne.code, ne.so
		minus5 := withW(max32-4, max32-4)
		check(t, []row{
			{"at the low end", c, false, so, withW(5, 9), withW(5, 5), withW(6, 9), withW(5, 5)},
			{"at the high end", c, false, so, withW(5, 9), withW(9, 9), withW(5, 8), withW(9, 9)},
			{"between", c, false, so, withW(5, 9), withW(7, 7), withW(5, 9), withW(7, 7)},
			{"of the other one", c, false, so, withW(9, 9), withW(5, 9), withW(9, 9), withW(5, 8)},
			{what: "the only one", code: c, wide: false, so: so, a: withW(5, 5), b: withW(5, 5)},
			{what: "the only one, least", code: c, wide: false, so: so, a: withW(0, 0), b: withW(0, 0)},
			{what: "the only one, greatest", code: c, wide: false, so: so, a: withW(max32, max32), b: withW(max32, max32)},
			{"the least of all", c, false, so, anything, withW(0, 0), withW(1, max32), withW(0, 0)},
			{"the greatest of all", c, false, so, anything, withW(max32, max32), withW(0, max32-1), withW(max32, max32)},
			{"the least with a sign", c, false, so, anything, withW(two31, two31), withV(min31+1, max31), withW(two31, two31)},
			{"the greatest with a sign", c, false, so, anything, withW(max31, max31), withV(min31, max31-1), withW(max31, max31)},
			{"at the low end with a sign", c, false, so, withV(-5, 9), minus5, withV(-4, 9), minus5},
			{"at the high end with a sign", c, false, so, withV(-9, -5), minus5, withV(-9, -6), minus5},
			{what: "the only one with a sign", code: c, wide: false, so: so, a: withV(-5, -5), b: minus5},
			{what: "the least with a sign alone", code: c, wide: false, so: so, a: withV(min31, min31), b: withW(two31, two31)},
			{what: "the greatest with a sign alone", code: c, wide: false, so: so, a: withV(max31, max31), b: withW(max31, max31)},
			{"the whole of the other one does not count", c, false, so, withW(5, 9), withU(5, 5), withW(5, 9), withU(5, 5)},
			{"the signed half of the other one does not count", c, false, so, withV(5, 9), withV(5, 5), withV(5, 9), withV(5, 5)},
			{"of wholes nothing is told", c, false, so, with(func(b *api.Bound) { b.U, b.S = sp(5, 9), re(5, 9) }), withW(5, 5), with(func(b *api.Bound) { b.U, b.S = sp(5, 9), re(5, 9) }), withW(5, 5)},
			{"wide, the half of the other one does not count", c, true, so, with(func(b *api.Bound) { b.U, b.S, b.W, b.V = sp(5, 9), re(5, 9), sp(5, 9), re(5, 9) }), withW(5, 5), withU(5, 9), withW(5, 5)},
		})
	}
}

// ordering is a code that asks for an order, as two others say it: above, or not below, of b and a where it is turned.
type ordering struct {
	code           uint8
	so             bool
	signed, turned bool
	gap            uint64
}

func orderings() []ordering {
	return []ordering{
		{api.JmpGt, true, false, false, 1}, {api.JmpLe, false, false, false, 1},
		{api.JmpGe, true, false, false, 0}, {api.JmpLt, false, false, false, 0},
		{api.JmpLt, true, false, true, 1}, {api.JmpGe, false, false, true, 1},
		{api.JmpLe, true, false, true, 0}, {api.JmpGt, false, false, true, 0},
		{api.JmpSgt, true, true, false, 1}, {api.JmpSle, false, true, false, 1},
		{api.JmpSge, true, true, false, 0}, {api.JmpSlt, false, true, false, 0},
		{api.JmpSlt, true, true, true, 1}, {api.JmpSge, false, true, true, 1},
		{api.JmpSle, true, true, true, 0}, {api.JmpSgt, false, true, true, 0},
	}
}

// order asks it of a, of which it is known that it is the greater one, and of b.
func (o ordering) order(t *testing.T, wide bool, a, b, x, y api.Bound) {
	t.Helper()
	if o.turned {
		a, b, x, y = b, a, y, x
	}
	check(t, []row{{"an order", o.code, wide, o.so, a, b, x, y}})
}

func TestP61Orders(t *testing.T) {
	for _, o := range orderings() {
		g := o.gap
		if o.signed {
			n := int64(g)
			o.order(t, true, withS(-9, 5), withS(-5, 9), withS(-5+n, 5), withS(-5, 5-n))
			o.order(t, true, withS(-5, 9), withS(-9, 5), withS(-5, 9), withS(-9, 5))
			o.order(t, true, anything, anything, withS(min63+n, max63), withS(min63, max63-n))
			o.order(t, true, withS(-9, -5), withS(-4, 9), api.Bound{}, api.Bound{})
			o.order(t, true, withV(-9, 5), withV(-5, 9), withVS(-9, 5, min63+n, max63), withVS(-5, 9, min63, max63-n))
			o.order(t, false, withV(-9, 5), withV(-5, 9), withV(-5+n, 5), withV(-5, 5-n))
			o.order(t, false, withV(-5, 9), withV(-9, 5), withV(-5, 9), withV(-9, 5))
			o.order(t, false, anything, anything, withV(min31+n, max31), withV(min31, max31-n))
			o.order(t, false, withV(-9, -5), withV(-4, 9), api.Bound{}, api.Bound{})
			o.order(t, false, withS(-9, 5), withS(-5, 9), withVS(min31+n, max31, -9, 5), withVS(min31, max31-n, -5, 9))
			continue
		}
		o.order(t, true, withU(2, 5), withU(4, 9), withU(4+g, 5), withU(4, 5-g))
		o.order(t, true, withU(4, 9), withU(2, 5), withU(4, 9), withU(2, 5))
		o.order(t, true, anything, anything, withU(g, max64), withU(0, max64-g))
		o.order(t, true, withU(2, 5), withU(6, 9), api.Bound{}, api.Bound{})
		o.order(t, true, withW(2, 5), withW(4, 9), withUW(g, max64, 2, 5), withUW(0, max64-g, 4, 9))
		o.order(t, false, withW(2, 5), withW(4, 9), withW(4+g, 5), withW(4, 5-g))
		o.order(t, false, withW(4, 9), withW(2, 5), withW(4, 9), withW(2, 5))
		o.order(t, false, anything, anything, withW(g, max32), withW(0, max32-g))
		o.order(t, false, withW(2, 5), withW(6, 9), api.Bound{}, api.Bound{})
		o.order(t, false, withU(2, 5), withU(4, 9), withUW(2, 5, g, max32), withUW(4, 9, 0, max32-g))
	}
}

func withUW(low, high, lowHalf, highHalf uint64) api.Bound {
	return with(func(b *api.Bound) { b.U, b.W = sp(low, high), sp(lowHalf, highHalf) })
}

func withVS(lowHalf, highHalf, low, high int64) api.Bound {
	return with(func(b *api.Bound) { b.V, b.S = re(lowHalf, highHalf), re(low, high) })
}

// TestP61Ends: there is nothing above the greatest of all, and nothing below the least; but they are not below, and not above themselves.
func TestP61Ends(t *testing.T) {
	for _, o := range orderings() {
		for _, wide := range []bool{true, false} {
			all, least, greatest := anything, withU(0, 0), withU(max64, max64)
			switch {
			case o.signed && wide:
				least, greatest = withS(min63, min63), withS(max63, max63)
			case o.signed:
				least, greatest = withV(min31, min31), withV(max31, max31)
			case !wide:
				least, greatest = withW(0, 0), withW(max32, max32)
			}
			if o.gap == 1 {
				o.order(t, wide, all, greatest, api.Bound{}, api.Bound{})
				o.order(t, wide, least, all, api.Bound{}, api.Bound{})
				o.order(t, wide, greatest, greatest, api.Bound{}, api.Bound{})
				o.order(t, wide, least, least, api.Bound{}, api.Bound{})
			} else {
				o.order(t, wide, all, greatest, greatest, greatest)
				o.order(t, wide, least, all, least, least)
				o.order(t, wide, greatest, greatest, greatest, greatest)
				o.order(t, wide, least, least, least, least)
			}
			o.order(t, wide, all, least, above(o, wide), least)
			o.order(t, wide, greatest, all, greatest, below(o, wide))
			o.order(t, wide, greatest, least, greatest, least)
			o.order(t, wide, least, greatest, api.Bound{}, api.Bound{})
		}
	}
}

// above and below have all numbers but, where it is asked for one that is above, the least, and the greatest one.
func above(o ordering, wide bool) api.Bound {
	switch n := int64(o.gap); {
	case o.signed && wide:
		return withS(min63+n, max63)
	case o.signed:
		return withV(min31+n, max31)
	case wide:
		return withU(o.gap, max64)
	}
	return withW(o.gap, max32)
}

func below(o ordering, wide bool) api.Bound {
	switch n := int64(o.gap); {
	case o.signed && wide:
		return withS(min63, max63-n)
	case o.signed:
		return withV(min31, max31-n)
	case wide:
		return withU(0, max64-o.gap)
	}
	return withW(0, max32-o.gap)
}

func TestP61Set(t *testing.T) {
	c, so := api.JmpSet, true
	check(t, []row{
		{what: "no bit in common", code: c, wide: true, so: so, a: bound.Const(5), b: bound.Const(10)},
		{what: "no bit that both may have", code: c, wide: true, so: so, a: withT(4, 1), b: withT(2, 8)},
		{what: "none, of 0", code: c, wide: true, so: so, a: anything, b: withT(0, 0)},
		{what: "none, of 0, turned", code: c, wide: true, so: so, a: withT(0, 0), b: anything},
		{"one that both may have", c, true, so, withT(4, 9), withT(2, 8), withT(4, 9), withT(2, 8)},
		{"one that one may have, and the other one has", c, true, so, withT(8, 1), withT(2, 8), withT(8, 1), withT(2, 8)},
		{"one bit alone", c, true, so, anything, bound.Const(4), withT(4, max64-4), bound.Const(4)},
		{"one bit alone, turned", c, true, so, bound.Const(4), anything, bound.Const(4), withT(4, max64-4)},
		{"the highest alone", c, true, so, anything, bound.Const(two63), withT(two63, max63), bound.Const(two63)},
		{"the lowest alone", c, true, so, anything, bound.Const(1), withT(1, max64-1), bound.Const(1)},
		{"one that the other one has", c, true, so, withT(4, 3), bound.Const(4), withT(4, 3), bound.Const(4)},
		{"both alone", c, true, so, bound.Const(4), bound.Const(4), bound.Const(4), bound.Const(4)},
		{"two bits", c, true, so, anything, bound.Const(5), anything, bound.Const(5)},
		{"one bit, and one that is not known", c, true, so, anything, withT(4, 1), anything, withT(4, 1)},
		{"one bit that is not known", c, true, so, anything, withT(0, 4), anything, withT(0, 4)},
		{"one bit as U alone knows", c, true, so, anything, withU(4, 4), anything, withU(4, 4)},
		{"wide, a lower bit, and one above", c, true, so, anything, bound.Const(two32 + 4), anything, bound.Const(two32 + 4)},
		{"wide, one in the upper half", c, true, so, anything, bound.Const(two32), withT(two32, max64-two32), bound.Const(two32)},
	})
}

func TestP61SetNotWide(t *testing.T) {
	c, so := api.JmpSet, true
	up := uint64(9 * two32)
	check(t, []row{
		{what: "no lower bit in common", code: c, wide: false, so: so, a: bound.Const(up + 5), b: bound.Const(up + 10)},
		{what: "no lower bit that both may have", code: c, wide: false, so: so, a: withT(4, up+1), b: withT(2, up+8)},
		{what: "upper bits alone", code: c, wide: false, so: so, a: anything, b: bound.Const(up)},
		{what: "upper bits alone, turned", code: c, wide: false, so: so, a: bound.Const(two32), b: anything},
		{"one lower bit alone", c, false, so, anything, withT(4, max64-max32), withT(4, max64-4), withT(4, max64-max32)},
		{"one lower bit alone, turned", c, false, so, withT(4, max64-max32), anything, withT(4, max64-max32), withT(4, max64-4)},
		{"one lower bit, others above", c, false, so, withT(up, 15), bound.Const(7*up + 8), withT(up+8, 7), bound.Const(7*up + 8)},
		{"the highest lower bit", c, false, so, anything, bound.Const(two31), withT(two31, max64-two31), bound.Const(two31)},
		{"two lower bits", c, false, so, anything, bound.Const(5), anything, bound.Const(5)},
		{"one that is not known", c, false, so, anything, withT(4, 1), anything, withT(4, 1)},
	})
}

func TestP61Clear(t *testing.T) {
	c, so := api.JmpSet, false
	up := uint64(9 * two32)
	check(t, []row{
		{what: "one by both", code: c, wide: true, so: so, a: withT(4, 3), b: withT(4, 8)},
		{what: "the highest by both", code: c, wide: true, so: so, a: withT(two63, max63), b: withT(two63, max63)},
		{"one by a", c, true, so, withT(4, 3), anything, withT(4, 3), withT(0, max64-4)},
		{"one by b", c, true, so, anything, withT(4, 3), withT(0, max64-4), withT(4, 3)},
		{"several by one", c, true, so, anything, bound.Const(6), withT(0, max64-6), bound.Const(6)},
		{"some by each", c, true, so, withT(4, 3), withT(2, 13), withT(4, 1), withT(2, 9)},
		{"none by any", c, true, so, withT(0, 3), withT(0, 7), withT(0, 3), withT(0, 7)},
		{"none of 0", c, true, so, anything, bound.Const(0), anything, bound.Const(0)},
		{"one by U alone", c, true, so, anything, withU(4, 4), anything, withU(4, 4)},
		{"those of the upper half", c, true, so, anything, bound.Const(up), withT(0, max64-up), bound.Const(up)},
		{what: "not wide, one by both", code: c, wide: false, so: so, a: withT(4, 3), b: withT(4, max64-7)},
		{what: "not wide, the highest lower one by both", code: c, wide: false, so: so, a: withT(two31, max31), b: withT(two31, max31)},
		{"not wide, an upper one by both", c, false, so, withT(up, 3), withT(up, 3), withT(up, 3), withT(up, 3)},
		{"not wide, one by a", c, false, so, withT(up+4, 3), anything, withT(up+4, 3), withT(0, max64-4)},
		{"not wide, one by b", c, false, so, anything, withT(up+4, 3), withT(0, max64-4), withT(up+4, 3)},
		{"not wide, some by each", c, false, so, withT(up+4, 3), withT(up+2, 13), withT(up+4, 1), withT(up+2, 9)},
		{"not wide, the highest lower one", c, false, so, anything, bound.Const(up + two31), withT(0, max64-two31), bound.Const(up + two31)},
	})
}

// TestP61Synced has a bound that three rounds leave something to know of: what stands as it is goes through Sync once, what was met once more.
func TestP61Synced(t *testing.T) {
	b := with(func(b *api.Bound) { b.T, b.U, b.W = tn(1, 5*two31-2), sp(10, two32+2), sp(4, 11) })
	once := api.Bound{T: tn(11, 0), U: sp(11, 11), S: re(10, 11), W: sp(11, 11), V: re(11, 11)}
	if x, y, is := refine(t, api.JmpA, true, true, b, b); !is || x != once || y != once {
		t.Errorf("as it is: %+v, %+v, %v", x, y, is)
	}
	twice := bound.Const(11)
	if x, y, is := refine(t, api.JmpEq, true, true, b, b); !is || x != twice || y != twice {
		t.Errorf("met: %+v, %+v, %v", x, y, is)
	}
}

// TestP61BeyondHalves: a row of halves that goes on beyond them is none to Sync, unless what is so has cut that off.
func TestP61BeyondHalves(t *testing.T) {
	far, farSigned := withW(0, max64), withV(min63, max63)
	check(t, []row{
		{"cut off", api.JmpLt, false, true, far, withW(5, 9), withW(0, 8), withW(5, 9)},
		{"met", api.JmpEq, false, true, far, withW(5, 9), withW(5, 9), withW(5, 9)},
		{what: "not cut off", code: api.JmpGt, wide: false, so: true, a: far, b: withW(5, 9)},
		{what: "wide", code: api.JmpLt, wide: true, so: true, a: far, b: withU(5, 9)},
		{what: "with a sign, one end cut off", code: api.JmpSlt, wide: false, so: true, a: farSigned, b: withV(5, 9)},
		{"with a sign, met", api.JmpEq, false, true, farSigned, withV(-5, 9), withV(-5, 9), withV(-5, 9)},
		{what: "all beyond", code: api.JmpGt, wide: false, so: true, a: anything, b: withW(max64, max64)},
		{what: "all below", code: api.JmpSgt, wide: false, so: true, a: withV(min63, min63), b: anything},
	})
}
