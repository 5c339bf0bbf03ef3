package cond_test

import (
	"slices"
	"testing"

	"warden/alu"
	"warden/api"
	"warden/bound"
	"warden/cond"
)

// sure answers what Sure answers of a code that is one.
func sure(t *testing.T, code uint8, wide bool, a, b api.Bound) (so, is bool) {
	t.Helper()
	so, is, e := cond.Sure(code, wide, a, b)
	if e != api.OK {
		t.Fatalf("code %d: %v", code, e)
	}
	return so, is
}

func TestP62WrongCodes(t *testing.T) {
	for code := range 256 {
		known := slices.Contains(codes, uint8(code))
		for _, wide := range []bool{true, false} {
			for _, a := range append(empties(), anything, bound.Const(5)) {
				so, is, e := cond.Sure(uint8(code), wide, a, bound.Const(5))
				switch {
				case known && e != api.OK:
					t.Errorf("code %d: %v", code, e)
				case !known && (e != api.ErrCode || so || is):
					t.Errorf("code %d: %v, %v, %v", code, so, is, e)
				}
			}
		}
	}
}

// TestP62None: of no numbers nothing is sure; but where only Sync finds that there are none, it is so as it can't be otherwise.
func TestP62None(t *testing.T) {
	apart := with(func(b *api.Bound) { b.T, b.U = tn(8, 0), sp(7, 7) })
	for _, code := range codes {
		for _, wide := range []bool{true, false} {
			for _, a := range empties() {
				for _, b := range []api.Bound{a, anything, bound.Const(5)} {
					if so, is := sure(t, code, wide, a, b); so || is {
						t.Errorf("code %d, wide %v, of %+v and %+v: %v, %v", code, wide, a, b, so, is)
					}
					if so, is := sure(t, code, wide, b, a); so || is {
						t.Errorf("code %d, wide %v, of %+v and %+v: %v, %v", code, wide, b, a, so, is)
					}
				}
			}
			for _, a := range []api.Bound{apart, withT(1, 1), withW(0, max64), withV(min63, 0)} {
				if so, is := sure(t, code, wide, a, a); !so || !is {
					t.Errorf("code %d, wide %v, of %+v: %v, %v", code, wide, a, so, is)
				}
			}
		}
	}
}

func TestP62Ordinary(t *testing.T) {
	const yes, no, perhaps = 1, 0, -1
	seven := bound.Const(7)
	for _, r := range []struct {
		what string
		code uint8
		wide bool
		a, b api.Bound
		is   int
	}{
		{"always", api.JmpA, true, anything, anything, yes},
		{"always, not wide", api.JmpA, false, seven, anything, yes},
		{"7 is 7", api.JmpEq, true, seven, seven, yes},
		{"7 is not 7", api.JmpNe, true, seven, seven, no},
		{"7 is 8", api.JmpEq, true, seven, bound.Const(8), no},
		{"7 is not 8", api.JmpNe, true, seven, bound.Const(8), yes},
		{"7 is any", api.JmpEq, true, seven, anything, perhaps},
		{"any is not 7", api.JmpNe, true, anything, seven, perhaps},
		{"bits apart", api.JmpEq, true, withT(1, max64-1), withT(0, max64-1), no},
		{"7 is above any", api.JmpGt, true, seven, anything, perhaps},
		{"any is not below 0", api.JmpGe, true, anything, bound.Const(0), yes},
		{"any is below 0", api.JmpLt, true, anything, bound.Const(0), no},
		{"any is above the greatest", api.JmpGt, true, anything, bound.Const(max64), no},
		{"any is not above the greatest", api.JmpLe, true, anything, bound.Const(max64), yes},
		{"any is above the least with a sign", api.JmpSgt, true, anything, bound.Const(two63), perhaps},
		{"any is not below the least with a sign", api.JmpSge, true, anything, bound.Const(two63), yes},
		{"any is below the least with a sign", api.JmpSlt, true, anything, bound.Const(two63), no},
		{"any is not above the greatest with a sign", api.JmpSle, true, anything, bound.Const(max63), yes},
		{"not wide, any is not below the least with a sign", api.JmpSge, false, anything, bound.Const(two31), yes},
		{"not wide, any is above the greatest with a sign", api.JmpSgt, false, anything, bound.Const(max31), no},
		{"not wide, any is not above the greatest", api.JmpLe, false, anything, bound.Const(max32), yes},
		{"wide, any is not above the greatest half", api.JmpLe, true, anything, bound.Const(max32), perhaps},
		{"3 at most is below 7", api.JmpLt, false, withW(0, 3), seven, yes},
		{"3 at most, in its half, is below 7", api.JmpLt, true, withW(0, 3), seven, perhaps},
		{"7 at most is below 7", api.JmpLt, false, withW(0, 7), seven, perhaps},
		{"halves are one", api.JmpEq, false, bound.Const(two32 + 7), seven, yes},
		{"wholes are not", api.JmpEq, true, bound.Const(two32 + 7), seven, no},
		{"a bit in common", api.JmpSet, true, withT(4, 3), withT(4, 8), yes},
		{"none in common", api.JmpSet, true, withT(4, 1), withT(2, 8), no},
		{"perhaps one", api.JmpSet, true, withT(4, 9), withT(2, 8), perhaps},
		{"one above", api.JmpSet, true, bound.Const(two32 + 4), bound.Const(two32), yes},
		{"none below", api.JmpSet, false, bound.Const(two32 + 4), bound.Const(two32), no},
	} {
		so, is := sure(t, r.code, r.wide, r.a, r.b)
		if so != (r.is == yes) || is != (r.is != perhaps) {
			t.Errorf("%s: %v, %v", r.what, so, is)
		}
	}
}

// TestP62ByRefine: it is sure what can't be otherwise.
func TestP62ByRefine(t *testing.T) {
	c := chance(2)
	for range 5000 {
		a, b, _, _ := c.pair()
		if c.below(4) == 0 {
			a, b = c.mixed(), c.mixed()
		}
		for _, code := range codes {
			for _, wide := range []bool{true, false} {
				_, _, may := refined(code, wide, true, a, b)
				_, _, mayNot := refined(code, wide, false, a, b)
				so, is := sure(t, code, wide, a, b)
				some := !bound.None(a) && !bound.None(b)
				if so != (some && !mayNot) || is != (some && (!mayNot || !may)) {
					t.Fatalf("code %d, wide %v, of %+v and %+v: %v, %v", code, wide, a, b, so, is)
				}
			}
		}
	}
}

// candidates has x, and numbers of the bound: next to its ends, in all ways, and such as its bits leave; a few of them.
func candidates(b api.Bound, x uint64) []uint64 {
	l := []uint64{b.T.Value, b.T.Value | b.T.Mask, b.T.Value | b.T.Mask&0x5555555555555555, b.T.Value | b.T.Mask&two63, b.T.Value | b.T.Mask&max63}
	for _, x := range []uint64{b.U.Low, b.U.High, uint64(b.S.Low), uint64(b.S.High)} {
		l = append(l, x, x+1, x-1)
		for _, w := range []uint64{b.W.Low, b.W.High, uint64(b.V.Low), uint64(b.V.High)} {
			l = append(l, x-x%two32+w%two32)
		}
	}
	of := []uint64{x}
	for _, y := range l {
		if len(of) < 8 && bound.Has(b, y) && !slices.Contains(of, y) {
			of = append(of, y)
		}
	}
	return of
}

// TestP63NoneIsLost: of two numbers of which it is so, the one is a number of x, the other one of y; and what is sure is so of each two.
func TestP63NoneIsLost(t *testing.T) {
	c := chance(3)
	asked := 0
	for range 4000 {
		a, b, p, q := c.pair()
		ofA, ofB := candidates(a, p), candidates(b, q)
		for _, code := range codes {
			for _, wide := range []bool{true, false} {
				asked += len(ofA) * len(ofB)
				notLost(t, code, wide, a, b, ofA, ofB)
			}
		}
	}
	if asked < 500_000 {
		t.Errorf("too few numbers: %d", asked)
	}
}

func notLost(t *testing.T, code uint8, wide bool, a, b api.Bound, ofA, ofB []uint64) {
	t.Helper()
	always, known := sure(t, code, wide, a, b)
	for _, so := range []bool{true, false} {
		x, y, is := refine(t, code, wide, so, a, b)
		for _, p := range ofA {
			for _, q := range ofB {
				answer, _ := alu.Asks(code, wide, p, q)
				if answer == so && (!is || !bound.Has(x, p) || !bound.Has(y, q)) {
					t.Fatalf("code %d, wide %v, so %v: %d and %d are none of %+v, %+v, of %+v and %+v", code, wide, so, p, q, x, y, a, b)
				}
				if known && answer != always {
					t.Fatalf("code %d, wide %v: not sure of %d and %d, of %+v and %+v", code, wide, p, q, a, b)
				}
			}
		}
	}
}

// TestP63SmallBounds tries all pairs of small bounds, with all of their numbers.
func TestP63SmallBounds(t *testing.T) {
	var l []api.Bound
	for _, base := range []uint64{0, max31 - 1, max32 - 1, max63 - 1, max64 - 3} {
		for i := range uint64(4) {
			for j := i; j < 4; j++ {
				if low, high := base+i, base+j; low <= high {
					l = append(l, bound.Sync(withU(low, high)))
				}
			}
		}
	}
	l = append(l, withS(-2, 1), withV(-2, 1), withS(-2, -1), withW(max32-1, max32), withT(0, 5), withT(1, two31+two63), withT(4, two32))
	sample := []uint64{0, 1, 2, 3, 4, 5, two31, two31 + 1, max31 - 1, max31, max32 - 2, max32 - 1, max32, two32, two32 + 1, two32 + 4, max63 - 1, max63, two63, two63 + 1, two63 + two31 + 1, max64 - 3, max64 - 2, max64 - 1, max64}
	numbers := make([][]uint64, len(l))
	for i, b := range l {
		for _, x := range sample {
			if bound.Has(b, x) {
				numbers[i] = append(numbers[i], x)
			}
		}
	}
	for i, a := range l {
		for j, b := range l {
			for _, code := range codes {
				notLost(t, code, true, a, b, numbers[i], numbers[j])
				notLost(t, code, false, a, b, numbers[i], numbers[j])
			}
		}
	}
}

// TestP63NothingIsGained: x says all that a says, y all that b says.
func TestP63NothingIsGained(t *testing.T) {
	c := chance(4)
	for range 20000 {
		a, b, _, _ := c.pair()
		if c.below(8) == 0 {
			a, b = c.mixed(), c.mixed()
		}
		if c.below(8) == 0 {
			a.T.Mask |= c.number() // it may no longer be
		}
		for _, code := range codes {
			for i := range 4 {
				wide, so := i&1 != 0, i&2 != 0
				if x, y, _ := refine(t, code, wide, so, a, b); !bound.In(x, a) || !bound.In(y, b) {
					t.Fatalf("code %d, wide %v, so %v: %+v, %+v, of %+v and %+v", code, wide, so, x, y, a, b)
				}
			}
		}
	}
}

// TestP63TwoNumbersAlone: of them it is sure whether it is so, and nothing else is left, or nothing at all.
func TestP63TwoNumbersAlone(t *testing.T) {
	numbers := []uint64{0, 1, 2, 3, 4, 5, 7, 8, max31 - 1, max31, two31, two31 + 1, max32 - 1, max32, two32, two32 + 1, two32 + 7, two32 + max31, two32 + two31, 2*two32 - 1,
		max63 - 1, max63, two63, two63 + 1, max64 - max32, max64 - two31, max64 - 7, max64 - 1, max64, 0x0123456789abcdef, 0xfedcba9876543210, 0x5555555555555555, 0xaaaaaaaaaaaaaaaa}
	for _, p := range numbers {
		for _, q := range numbers {
			a, b := bound.Const(p), bound.Const(q)
			for _, code := range codes {
				for _, wide := range []bool{true, false} {
					answer, _ := alu.Asks(code, wide, p, q)
					if so, is := sure(t, code, wide, a, b); so != answer || !is {
						t.Errorf("code %d, wide %v, of %d and %d: %v, %v", code, wide, p, q, so, is)
					}
					if x, y, is := refine(t, code, wide, answer, a, b); !is || x != a || y != b {
						t.Errorf("code %d, wide %v, of %d and %d: %+v, %+v, %v", code, wide, p, q, x, y, is)
					}
					if x, y, is := refine(t, code, wide, !answer, a, b); is || x != nothing || y != nothing {
						t.Errorf("code %d, wide %v, of %d and %d, the contrary: %+v, %+v, %v", code, wide, p, q, x, y, is)
					}
				}
			}
		}
	}
}
