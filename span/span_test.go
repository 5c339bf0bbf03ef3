package span_test

import (
	"math"
	"math/big"
	"testing"

	"warden/api"
	"warden/span"
)

const (
	max64  = math.MaxUint64
	middle = 1 << 63
	least  = math.MinInt64
	most   = math.MaxInt64
)

var (
	full    = api.Span{Low: 0, High: max64}
	all     = api.Reach{Low: least, High: most}
	noSpan  = api.Span{Low: 1, High: 0}
	noReach = api.Reach{Low: 1, High: 0}
)

func sp(low, high uint64) api.Span { return api.Span{Low: low, High: high} }
func re(low, high int64) api.Reach { return api.Reach{Low: low, High: high} }

// spanCalls has the calls that make a span of two, reachCalls those that make a reach of two.
var spanCalls = map[string]func(a, b api.Span) api.Span{"Meet": span.Meet, "Join": span.Join, "Add": span.Add, "Sub": span.Sub, "Mul": span.Mul, "Div": span.Div, "Mod": span.Mod}

var reachCalls = map[string]func(a, b api.Reach) api.Reach{"Cut": span.Cut, "Both": span.Both, "Plus": span.Plus, "Minus": span.Minus}

type spanRow struct {
	what      string
	got, want api.Span
}

func checkSpans(t *testing.T, rows []spanRow) {
	t.Helper()
	for _, r := range rows {
		if r.got != r.want {
			t.Errorf("%s: %d, not %d", r.what, r.got, r.want)
		}
	}
}

type reachRow struct {
	what      string
	got, want api.Reach
}

func checkReaches(t *testing.T, rows []reachRow) {
	t.Helper()
	for _, r := range rows {
		if r.got != r.want {
			t.Errorf("%s: %d, not %d", r.what, r.got, r.want)
		}
	}
}

type is struct {
	what      string
	got, want bool
}

func checkBools(t *testing.T, rows []is) {
	t.Helper()
	for _, r := range rows {
		if r.got != r.want {
			t.Errorf("%s: %v", r.what, r.got)
		}
	}
}

// edges has numbers at which something begins or ends, with their neighbours.
func edges() []uint64 {
	return []uint64{0, 1, 2, 3, 7, 8, 1<<31 - 1, 1 << 31, 1<<32 - 1, 1 << 32, 1<<32 + 1, 1<<62 - 1, 1 << 62, middle - 1, middle, middle + 1, 3 << 62, max64 - 2, max64 - 1, max64}
}

// wideSpans has the spans between any two edges: some has those with a number, none the others.
func wideSpans() (some, none []api.Span) {
	for _, low := range edges() {
		for _, high := range edges() {
			if low <= high {
				some = append(some, sp(low, high))
			} else {
				none = append(none, sp(low, high))
			}
		}
	}
	return some, none
}

// wideReaches has the same of reaches: the edges, taken with a sign, are such for these, too.
func wideReaches() (some, none []api.Reach) {
	for _, low := range edges() {
		for _, high := range edges() {
			if l, h := int64(low), int64(high); l <= h {
				some = append(some, re(l, h))
			} else {
				none = append(none, re(l, h))
			}
		}
	}
	return some, none
}

// smallSpans has all spans within a few numbers at the beginning, about the middle, and at the end, with none of them empty.
func smallSpans() []api.Span {
	var l []api.Span
	for _, first := range []uint64{0, 1<<32 - 2, middle - 3, max64 - 5} {
		for i := range uint64(6) {
			for j := i; j < 6; j++ {
				l = append(l, sp(first+i, first+j))
			}
		}
	}
	return l
}

func smallReaches() []api.Reach {
	var l []api.Reach
	for _, first := range []int64{least, -1<<32 - 2, -3, 1<<32 - 2, most - 5} {
		for i := range int64(6) {
			for j := i; j < 6; j++ {
				l = append(l, re(first+i, first+j))
			}
		}
	}
	return l
}

// numbersOf has a small span's numbers, counted up by steps so that the last of all numbers ends it, too.
func numbersOf(a api.Span) []uint64 {
	var l []uint64
	if a.Low <= a.High {
		for i := range a.High - a.Low + 1 {
			l = append(l, a.Low+i)
		}
	}
	return l
}

func heldBy(a api.Reach) []int64 {
	var l []int64
	if a.Low <= a.High {
		for i := range a.High - a.Low + 1 {
			l = append(l, a.Low+i)
		}
	}
	return l
}

// counts has so many bits: all that there are, those next to the end, and more.
func counts() []uint {
	var l []uint
	for n := range uint(131) {
		l = append(l, n)
	}
	return append(l, 255, 256, 257, 1<<31, 1<<32, 1<<32+1, 1<<63, math.MaxUint-1, math.MaxUint)
}

func bigU(x uint64) *big.Int { return new(big.Int).SetUint64(x) }
func bigS(x int64) *big.Int  { return big.NewInt(x) }

// spanOf is the span between two numbers without an end; Full, if one is none of a span.
func spanOf(low, high *big.Int) api.Span {
	if !low.IsUint64() || !high.IsUint64() {
		return full
	}
	return sp(low.Uint64(), high.Uint64())
}

func reachOf(low, high *big.Int) api.Reach {
	if !low.IsInt64() || !high.IsInt64() {
		return all
	}
	return re(low.Int64(), high.Int64())
}

func eachTwoSpans(t *testing.T, name string, want func(a, b api.Span) api.Span) {
	t.Helper()
	some, _ := wideSpans()
	for _, l := range [][]api.Span{some, smallSpans()} {
		for _, a := range l {
			for _, b := range l {
				if got, w := spanCalls[name](a, b), want(a, b); got != w {
					t.Fatalf("%s(%d, %d): %d, not %d", name, a, b, got, w)
				}
			}
		}
	}
}

func eachTwoReaches(t *testing.T, name string, want func(a, b api.Reach) api.Reach) {
	t.Helper()
	some, _ := wideReaches()
	for _, l := range [][]api.Reach{some, smallReaches()} {
		for _, a := range l {
			for _, b := range l {
				if got, w := reachCalls[name](a, b), want(a, b); got != w {
					t.Fatalf("%s(%d, %d): %d, not %d", name, a, b, got, w)
				}
			}
		}
	}
}

func TestP41NoneAndNil(t *testing.T) {
	checkBools(t, []is{
		{"1 to 0", span.None(noSpan), true},
		{"0 to 0", span.None(sp(0, 0)), false},
		{"one number", span.None(sp(7, 7)), false},
		{"the greatest", span.None(sp(max64, max64)), false},
		{"one too few", span.None(sp(7, 6)), true},
		{"the greatest to 0", span.None(sp(max64, 0)), true},
		{"over the middle", span.None(sp(middle-1, middle)), false},
		{"over the middle, turned", span.None(sp(middle, middle-1)), true},
		{"Full", span.None(span.Full()), false},

		{"with a sign: 1 to 0", span.Nil(noReach), true},
		{"with a sign: 0 to 0", span.Nil(re(0, 0)), false},
		{"with a sign: below 0", span.Nil(re(-7, -7)), false},
		{"with a sign: one too few", span.Nil(re(-7, -8)), true},
		{"with a sign: -1 to 0", span.Nil(re(-1, 0)), false},
		{"with a sign: 0 to -1", span.Nil(re(0, -1)), true},
		{"with a sign: the greatest to the least", span.Nil(re(most, least)), true},
		{"All", span.Nil(span.All()), false},
	})
	someSpans, noneSpans := wideSpans()
	someReaches, noneReaches := wideReaches()
	for _, a := range someSpans {
		checkBools(t, []is{{"a span with a number", span.None(a), false}})
	}
	for _, a := range noneSpans {
		checkBools(t, []is{{"a span without one", span.None(a), true}})
	}
	for _, a := range someReaches {
		checkBools(t, []is{{"a reach with a number", span.Nil(a), false}})
	}
	for _, a := range noneReaches {
		checkBools(t, []is{{"a reach without one", span.Nil(a), true}})
	}
}

func TestP41HasAndHolds(t *testing.T) {
	checkBools(t, []is{
		{"its least", span.Has(sp(3, 5), 3), true},
		{"between", span.Has(sp(3, 5), 4), true},
		{"its greatest", span.Has(sp(3, 5), 5), true},
		{"below", span.Has(sp(3, 5), 2), false},
		{"above", span.Has(sp(3, 5), 6), false},
		{"one number", span.Has(sp(3, 3), 3), true},
		{"Full has 0", span.Has(span.Full(), 0), true},
		{"Full has the greatest", span.Has(span.Full(), max64), true},
		{"the greatest is far above", span.Has(sp(3, 5), max64), false},
		{"1 to 0 has not 0", span.Has(noSpan, 0), false},
		{"1 to 0 has not 1", span.Has(noSpan, 1), false},
		{"a turned one has not what is between", span.Has(sp(9, 3), 5), false},

		{"with a sign: its least", span.Holds(re(-2, 3), -2), true},
		{"with a sign: 0", span.Holds(re(-2, 3), 0), true},
		{"with a sign: its greatest", span.Holds(re(-2, 3), 3), true},
		{"with a sign: below", span.Holds(re(-2, 3), -3), false},
		{"with a sign: above", span.Holds(re(-2, 3), 4), false},
		{"All holds the least", span.Holds(span.All(), least), true},
		{"All holds the greatest", span.Holds(span.All(), most), true},
		{"with a sign: 1 to 0 holds not 0", span.Holds(noReach, 0), false},
		{"with a sign: 1 to 0 holds not 1", span.Holds(noReach, 1), false},
		{"with a sign: a turned one", span.Holds(re(3, -3), 0), false},
	})
	some, none := wideSpans()
	for _, x := range edges() {
		for _, a := range append(some, none...) {
			want := bigU(a.Low).Cmp(bigU(x)) <= 0 && bigU(x).Cmp(bigU(a.High)) <= 0
			if got := span.Has(a, x); got != want {
				t.Fatalf("Has(%d, %d): %v", a, x, got)
			}
			r, y := re(int64(a.Low), int64(a.High)), int64(x)
			want = bigS(r.Low).Cmp(bigS(y)) <= 0 && bigS(y).Cmp(bigS(r.High)) <= 0
			if got := span.Holds(r, y); got != want {
				t.Fatalf("Holds(%d, %d): %v", r, y, got)
			}
		}
	}
}

func TestP41In(t *testing.T) {
	checkBools(t, []is{
		{"itself", span.In(sp(3, 5), sp(3, 5)), true},
		{"within", span.In(sp(4, 4), sp(3, 5)), true},
		{"at the low end", span.In(sp(3, 4), sp(3, 5)), true},
		{"at the high end", span.In(sp(4, 5), sp(3, 5)), true},
		{"below by one", span.In(sp(2, 5), sp(3, 5)), false},
		{"above by one", span.In(sp(3, 6), sp(3, 5)), false},
		{"around it", span.In(sp(0, 9), sp(3, 5)), false},
		{"beside it", span.In(sp(6, 7), sp(3, 5)), false},
		{"all of Full", span.In(span.Full(), span.Full()), true},
		{"one number of Full", span.In(sp(max64, max64), span.Full()), true},
		{"Full in all but 0", span.In(span.Full(), sp(1, max64)), false},
		{"none in some", span.In(noSpan, sp(3, 5)), true},
		{"none in none", span.In(noSpan, noSpan), true},
		{"none far from it", span.In(sp(90, 80), sp(3, 5)), true},
		{"none in another none", span.In(sp(9, 8), sp(5, 2)), true},
		{"some in none", span.In(sp(3, 5), noSpan), false},
		{"0 in none", span.In(sp(0, 0), noSpan), false},
		{"some in a turned one", span.In(sp(4, 4), sp(5, 3)), false},
	})
	for _, a := range append(smallSpans(), noSpan, sp(5, 2), sp(max64, 0)) {
		for _, b := range append(smallSpans(), noSpan, sp(5, 2), sp(max64, 0)) {
			want := true
			for _, x := range numbersOf(a) {
				want = want && span.Has(b, x)
			}
			if got := span.In(a, b); got != want {
				t.Fatalf("In(%d, %d): %v", a, b, got)
			}
		}
	}
}

func TestP41MeetAndCut(t *testing.T) {
	checkSpans(t, []spanRow{
		{"over each other", span.Meet(sp(1, 5), sp(3, 9)), sp(3, 5)},
		{"the other way", span.Meet(sp(3, 9), sp(1, 5)), sp(3, 5)},
		{"one within", span.Meet(sp(1, 9), sp(3, 5)), sp(3, 5)},
		{"in one number", span.Meet(sp(1, 3), sp(3, 5)), sp(3, 3)},
		{"they touch, without one in common", span.Meet(sp(1, 2), sp(3, 5)), noSpan},
		{"far from each other", span.Meet(sp(90, 95), sp(3, 5)), noSpan},
		{"Full takes nothing", span.Meet(span.Full(), sp(3, 5)), sp(3, 5)},
		{"Full and Full", span.Meet(span.Full(), span.Full()), full},
		{"the greatest", span.Meet(sp(7, max64), sp(max64, max64)), sp(max64, max64)},
		{"over the middle", span.Meet(sp(0, middle), sp(middle-1, max64)), sp(middle-1, middle)},
	})
	checkReaches(t, []reachRow{
		{"over each other", span.Cut(re(-5, 1), re(-1, 9)), re(-1, 1)},
		{"the other way", span.Cut(re(-1, 9), re(-5, 1)), re(-1, 1)},
		{"one within", span.Cut(re(-9, 9), re(-5, -3)), re(-5, -3)},
		{"in one number", span.Cut(re(-3, 0), re(0, 5)), re(0, 0)},
		{"they touch, without one in common", span.Cut(re(-3, -1), re(0, 5)), noReach},
		{"far from each other", span.Cut(re(90, 95), re(-5, -3)), noReach},
		{"All takes nothing", span.Cut(span.All(), re(-3, 5)), re(-3, 5)},
		{"All and All", span.Cut(span.All(), span.All()), all},
		{"the least", span.Cut(re(least, 7), re(least, least)), re(least, least)},
	})
	eachTwoSpans(t, "Meet", func(a, b api.Span) api.Span {
		low, high := a.Low, a.High
		if b.Low > low {
			low = b.Low
		}
		if b.High < high {
			high = b.High
		}
		if high < low {
			return noSpan
		}
		return sp(low, high)
	})
	eachTwoReaches(t, "Cut", func(a, b api.Reach) api.Reach {
		low, high := a.Low, a.High
		if b.Low > low {
			low = b.Low
		}
		if b.High < high {
			high = b.High
		}
		if high < low {
			return noReach
		}
		return re(low, high)
	})
}

func TestP41MeetHasWhatBothHave(t *testing.T) {
	for _, a := range smallSpans() {
		for _, b := range smallSpans() {
			met := span.Meet(a, b)
			for _, x := range append(numbersOf(a), numbersOf(b)...) {
				if span.Has(met, x) != (span.Has(a, x) && span.Has(b, x)) {
					t.Fatalf("Meet(%d, %d): %d, and %d", a, b, met, x)
				}
			}
		}
	}
	for _, a := range smallReaches() {
		for _, b := range smallReaches() {
			met := span.Cut(a, b)
			for _, x := range append(heldBy(a), heldBy(b)...) {
				if span.Holds(met, x) != (span.Holds(a, x) && span.Holds(b, x)) {
					t.Fatalf("Cut(%d, %d): %d, and %d", a, b, met, x)
				}
			}
		}
	}
}

func TestP41JoinAndBoth(t *testing.T) {
	checkSpans(t, []spanRow{
		{"beside each other", span.Join(sp(1, 2), sp(3, 5)), sp(1, 5)},
		{"the other way", span.Join(sp(3, 5), sp(1, 2)), sp(1, 5)},
		{"with a gap", span.Join(sp(90, 95), sp(3, 5)), sp(3, 95)},
		{"over each other", span.Join(sp(1, 4), sp(3, 5)), sp(1, 5)},
		{"one within", span.Join(sp(1, 9), sp(3, 5)), sp(1, 9)},
		{"itself", span.Join(sp(3, 5), sp(3, 5)), sp(3, 5)},
		{"0 and the greatest", span.Join(sp(0, 0), sp(max64, max64)), full},
		{"Full", span.Join(span.Full(), sp(3, 5)), full},
		{"the first has none", span.Join(noSpan, sp(3, 5)), sp(3, 5)},
		{"the second has none", span.Join(sp(3, 5), noSpan), sp(3, 5)},
		{"one is turned", span.Join(sp(9, 2), sp(3, 5)), sp(3, 5)},
		{"the other is turned", span.Join(sp(3, 5), sp(max64, 0)), sp(3, 5)},
		{"none and Full", span.Join(noSpan, span.Full()), full},
		{"both have none", span.Join(noSpan, noSpan), noSpan},
		{"both have none, the first not 1 to 0", span.Join(sp(9, 2), noSpan), noSpan},
		{"both have none, the second not 1 to 0", span.Join(noSpan, sp(2, 0)), noSpan},
		{"both have none, and are the same", span.Join(sp(9, 2), sp(9, 2)), noSpan},
	})
	checkReaches(t, []reachRow{
		{"beside each other", span.Both(re(-2, -1), re(0, 5)), re(-2, 5)},
		{"the other way", span.Both(re(0, 5), re(-2, -1)), re(-2, 5)},
		{"with a gap", span.Both(re(90, 95), re(-5, -3)), re(-5, 95)},
		{"one within", span.Both(re(-9, 9), re(-5, -3)), re(-9, 9)},
		{"the least and the greatest", span.Both(re(least, least), re(most, most)), all},
		{"All", span.Both(span.All(), re(-3, 5)), all},
		{"the first has none", span.Both(noReach, re(-3, 5)), re(-3, 5)},
		{"the second has none", span.Both(re(-3, 5), noReach), re(-3, 5)},
		{"one is turned", span.Both(re(9, -9), re(-3, 5)), re(-3, 5)},
		{"the other is turned", span.Both(re(-3, 5), re(most, least)), re(-3, 5)},
		{"both have none", span.Both(noReach, noReach), noReach},
		{"both have none, the first not 1 to 0", span.Both(re(9, -2), noReach), noReach},
		{"both have none, the second not 1 to 0", span.Both(noReach, re(0, -1)), noReach},
		{"both have none, and are the same", span.Both(re(9, -2), re(9, -2)), noReach},
	})
	eachTwoSpans(t, "Join", func(a, b api.Span) api.Span {
		low, high := a.Low, a.High
		if b.Low < low {
			low = b.Low
		}
		if b.High > high {
			high = b.High
		}
		return sp(low, high)
	})
	eachTwoReaches(t, "Both", func(a, b api.Reach) api.Reach {
		low, high := a.Low, a.High
		if b.Low < low {
			low = b.Low
		}
		if b.High > high {
			high = b.High
		}
		return re(low, high)
	})
}

func TestP42AddSubMul(t *testing.T) {
	checkSpans(t, []spanRow{
		{"Full", span.Full(), full},

		{"sums", span.Add(sp(1, 2), sp(3, 5)), sp(4, 7)},
		{"sums of numbers", span.Add(sp(40, 40), sp(2, 2)), sp(42, 42)},
		{"0 adds nothing", span.Add(sp(3, 5), sp(0, 0)), sp(3, 5)},
		{"just the greatest", span.Add(sp(0, max64-5), sp(3, 5)), sp(3, max64)},
		{"one above", span.Add(sp(0, max64-4), sp(3, 5)), full},
		{"both above", span.Add(sp(max64, max64), sp(1, 1)), full},
		{"far above", span.Add(span.Full(), span.Full()), full},
		{"Full and 0", span.Add(span.Full(), sp(0, 0)), full},
		{"sums over the middle", span.Add(sp(middle-1, middle-1), sp(0, 1)), sp(middle-1, middle)},

		{"differences", span.Sub(sp(3, 5), sp(1, 2)), sp(1, 4)},
		{"differences below 0", span.Sub(sp(1, 2), sp(3, 5)), full},
		{"differences of numbers", span.Sub(sp(42, 42), sp(2, 2)), sp(40, 40)},
		{"less 0", span.Sub(sp(3, 5), sp(0, 0)), sp(3, 5)},
		{"just 0", span.Sub(sp(5, 9), sp(3, 5)), sp(0, 6)},
		{"the least is below 0", span.Sub(sp(4, 9), sp(3, 5)), full},
		{"less itself", span.Sub(sp(3, 5), sp(3, 5)), full},
		{"a number less itself", span.Sub(sp(max64, max64), sp(max64, max64)), sp(0, 0)},
		{"0 less 1", span.Sub(sp(0, 0), sp(1, 1)), full},
		{"Full less 0", span.Sub(span.Full(), sp(0, 0)), full},
		{"the greatest less Full", span.Sub(sp(max64, max64), span.Full()), full},

		{"products", span.Mul(sp(1, 2), sp(3, 5)), sp(3, 10)},
		{"by 0", span.Mul(span.Full(), sp(0, 0)), sp(0, 0)},
		{"by 1", span.Mul(span.Full(), sp(1, 1)), full},
		{"by 0 and 1", span.Mul(sp(7, max64), sp(0, 1)), sp(0, max64)},
		{"just the greatest product", span.Mul(sp(0, 1<<32-1), sp(2, 1<<32+1)), sp(0, max64)},
		{"just above", span.Mul(sp(0, 1<<32), sp(2, 1<<32)), full},
		{"products both above", span.Mul(sp(1<<32, 1<<33), sp(1<<32, 1<<32)), full},
		{"products far above", span.Mul(sp(3, max64), sp(3, max64)), full},
	})
	eachTwoSpans(t, "Add", func(a, b api.Span) api.Span {
		return spanOf(new(big.Int).Add(bigU(a.Low), bigU(b.Low)), new(big.Int).Add(bigU(a.High), bigU(b.High)))
	})
	eachTwoSpans(t, "Sub", func(a, b api.Span) api.Span {
		return spanOf(new(big.Int).Sub(bigU(a.Low), bigU(b.High)), new(big.Int).Sub(bigU(a.High), bigU(b.Low)))
	})
	eachTwoSpans(t, "Mul", func(a, b api.Span) api.Span {
		return spanOf(new(big.Int).Mul(bigU(a.Low), bigU(b.Low)), new(big.Int).Mul(bigU(a.High), bigU(b.High)))
	})
}

func TestP42DivAndMod(t *testing.T) {
	checkSpans(t, []spanRow{
		{"quotients", span.Div(sp(3, 5), sp(1, 2)), sp(1, 5)},
		{"by 1", span.Div(sp(3, 5), sp(1, 1)), sp(3, 5)},
		{"rounded down", span.Div(sp(20, 29), sp(3, 10)), sp(2, 9)},
		{"by greater ones", span.Div(sp(3, 5), sp(6, 9)), sp(0, 0)},
		{"by some, 0 among them", span.Div(sp(3, 5), sp(0, 1)), sp(0, 5)},
		{"by 0 alone", span.Div(sp(3, 5), sp(0, 0)), sp(0, 5)},
		{"0 by 0", span.Div(sp(0, 0), sp(0, 0)), sp(0, 0)},
		{"Full by Full", span.Div(span.Full(), span.Full()), full},
		{"Full by all but 0", span.Div(span.Full(), sp(1, max64)), full},
		{"Full by 2 and more", span.Div(span.Full(), sp(2, max64)), sp(0, most)},
		{"the greatest by itself", span.Div(sp(max64, max64), sp(max64, max64)), sp(1, 1)},
		{"0 by some", span.Div(sp(0, 0), sp(1, 9)), sp(0, 0)},

		{"what is left", span.Mod(span.Full(), sp(3, 5)), sp(0, 4)},
		{"a is less", span.Mod(sp(1, 2), sp(3, 5)), sp(0, 2)},
		{"a is as great as what is left at most", span.Mod(sp(1, 4), sp(3, 5)), sp(0, 4)},
		{"a is one more", span.Mod(sp(1, 5), sp(3, 5)), sp(0, 4)},
		{"left by 1", span.Mod(sp(3, 5), sp(1, 1)), sp(0, 0)},
		{"left by some, 0 among them", span.Mod(sp(30, 50), sp(0, 3)), sp(0, 50)},
		{"left by 0 alone", span.Mod(sp(30, 50), sp(0, 0)), sp(0, 50)},
		{"left by Full", span.Mod(sp(30, 50), span.Full()), sp(0, 50)},
		{"Full, left by the greatest", span.Mod(span.Full(), sp(max64, max64)), sp(0, max64-1)},
		{"0, left by 0", span.Mod(sp(0, 0), sp(0, 0)), sp(0, 0)},
	})
	eachTwoSpans(t, "Div", func(a, b api.Span) api.Span {
		if b.Low == 0 {
			return sp(0, a.High)
		}
		return spanOf(new(big.Int).Quo(bigU(a.Low), bigU(b.High)), new(big.Int).Quo(bigU(a.High), bigU(b.Low)))
	})
	eachTwoSpans(t, "Mod", func(a, b api.Span) api.Span {
		if b.Low == 0 || a.High < b.High {
			return sp(0, a.High)
		}
		return sp(0, b.High-1)
	})
}

func TestP42ShlAndShr(t *testing.T) {
	checkSpans(t, []spanRow{
		{"up", span.Shl(sp(1, 2), 4), sp(16, 32)},
		{"up by 0", span.Shl(sp(3, max64), 0), sp(3, max64)},
		{"up to the highest bit", span.Shl(sp(1, 2), 62), sp(1<<62, middle)},
		{"the highest bit would go", span.Shl(sp(1, 2), 63), full},
		{"1 up by 63", span.Shl(sp(0, 1), 63), sp(0, middle)},
		{"the highest bit would go by 1", span.Shl(sp(0, middle), 1), full},
		{"all below go up by 1", span.Shl(sp(0, most), 1), sp(0, max64-1)},
		{"both would lose a bit", span.Shl(sp(middle, middle), 1), full},
		{"0 up by 63", span.Shl(sp(0, 0), 63), sp(0, 0)},
		{"0 up by 64", span.Shl(sp(0, 0), 64), full},
		{"up by 64", span.Shl(sp(1, 2), 64), full},
		{"0 up by 65", span.Shl(sp(0, 0), 65), full},
		{"0 up by the most", span.Shl(sp(0, 0), math.MaxUint), full},

		{"down", span.Shr(sp(3, 5), 1), sp(1, 2)},
		{"down by 0", span.Shr(sp(3, 5), 0), sp(3, 5)},
		{"down by 63", span.Shr(span.Full(), 63), sp(0, 1)},
		{"the highest bit down by 63", span.Shr(sp(middle, max64), 63), sp(1, 1)},
		{"down by 64", span.Shr(span.Full(), 64), sp(0, 0)},
		{"the greatest down by 64", span.Shr(sp(max64, max64), 64), sp(0, 0)},
		{"down by 65", span.Shr(sp(max64, max64), 65), sp(0, 0)},
		{"down by the most", span.Shr(sp(max64, max64), math.MaxUint), sp(0, 0)},
	})
	some, _ := wideSpans()
	for _, a := range some {
		for _, n := range counts() {
			up, down := full, sp(0, 0)
			if n <= 63 {
				power := new(big.Int).Exp(bigU(2), bigU(uint64(n)), nil)
				up = spanOf(new(big.Int).Mul(bigU(a.Low), power), new(big.Int).Mul(bigU(a.High), power))
				down = spanOf(new(big.Int).Quo(bigU(a.Low), power), new(big.Int).Quo(bigU(a.High), power))
			}
			if got := span.Shl(a, n); got != up {
				t.Fatalf("Shl(%d, %d): %d, not %d", a, n, got, up)
			}
			if got := span.Shr(a, n); got != down {
				t.Fatalf("Shr(%d, %d): %d, not %d", a, n, got, down)
			}
		}
	}
}

func TestP43PlusAndMinus(t *testing.T) {
	r := re(-2, 3)
	checkReaches(t, []reachRow{
		{"All", span.All(), all},

		{"sums", span.Plus(r, r), re(-4, 6)},
		{"sums of numbers", span.Plus(re(-40, -40), re(-2, -2)), re(-42, -42)},
		{"0 adds nothing", span.Plus(r, re(0, 0)), r},
		{"just the greatest", span.Plus(re(0, most-3), r), re(-2, most)},
		{"one above the greatest", span.Plus(re(0, most-2), r), all},
		{"just the least", span.Plus(re(least+2, 0), r), re(least, 3)},
		{"one below the least", span.Plus(re(least+1, 0), r), all},
		{"both above", span.Plus(re(most, most), re(1, 1)), all},
		{"both below", span.Plus(re(least, least), re(-1, -1)), all},
		{"twice the least", span.Plus(re(least, least), re(least, least)), all},
		{"below and above", span.Plus(all, all), all},
		{"All and 0", span.Plus(span.All(), re(0, 0)), all},
		{"the least and the greatest", span.Plus(re(least, least), re(most, most)), re(-1, -1)},

		{"differences", span.Minus(r, r), re(-5, 5)},
		{"differences of numbers", span.Minus(re(40, 40), re(-2, -2)), re(42, 42)},
		{"less 0", span.Minus(r, re(0, 0)), r},
		{"differences: just the greatest", span.Minus(re(0, most-2), r), re(-3, most)},
		{"differences: one above", span.Minus(re(0, most-1), r), all},
		{"differences: just the least", span.Minus(re(least+3, 0), r), re(least, 2)},
		{"differences: one below", span.Minus(re(least+2, 0), r), all},
		{"0 less the least", span.Minus(re(0, 0), re(least, least)), all},
		{"-1 less the least", span.Minus(re(-1, -1), re(least, least)), re(most, most)},
		{"the least less itself", span.Minus(re(least, least), re(least, least)), re(0, 0)},
		{"the least less the greatest", span.Minus(re(least, least), re(most, most)), all},
		{"All less All", span.Minus(span.All(), span.All()), all},
	})
	eachTwoReaches(t, "Plus", func(a, b api.Reach) api.Reach {
		return reachOf(new(big.Int).Add(bigS(a.Low), bigS(b.Low)), new(big.Int).Add(bigS(a.High), bigS(b.High)))
	})
	eachTwoReaches(t, "Minus", func(a, b api.Reach) api.Reach {
		return reachOf(new(big.Int).Sub(bigS(a.Low), bigS(b.High)), new(big.Int).Sub(bigS(a.High), bigS(b.Low)))
	})
}

func TestP43Sar(t *testing.T) {
	checkReaches(t, []reachRow{
		{"down", span.Sar(re(-2, 3), 1), re(-1, 1)},
		{"towards the lesser", span.Sar(re(-3, 3), 1), re(-2, 1)},
		{"by 0", span.Sar(re(-3, 3), 0), re(-3, 3)},
		{"by 62", span.Sar(span.All(), 62), re(-2, 1)},
		{"by 63", span.Sar(span.All(), 63), re(-1, 0)},
		{"by 64", span.Sar(span.All(), 64), re(-1, 0)},
		{"by 65", span.Sar(span.All(), 65), re(-1, 0)},
		{"by the most", span.Sar(span.All(), math.MaxUint), re(-1, 0)},
		{"below 0, by 64", span.Sar(re(least, -1), 64), re(-1, -1)},
		{"not below 0, by 64", span.Sar(re(0, most), 64), re(0, 0)},
		{"-1 stays", span.Sar(re(-1, -1), 7), re(-1, -1)},
	})
	some, _ := wideReaches()
	for _, a := range some {
		for _, n := range counts() {
			power := new(big.Int).Exp(bigS(2), bigU(uint64(min(n, 63))), nil)
			want := reachOf(new(big.Int).Div(bigS(a.Low), power), new(big.Int).Div(bigS(a.High), power))
			if got := span.Sar(a, n); got != want {
				t.Fatalf("Sar(%d, %d): %d, not %d", a, n, got, want)
			}
		}
	}
}

func TestP43SignAndBare(t *testing.T) {
	checkReaches(t, []reachRow{
		{"above the middle", span.Sign(sp(middle, max64)), re(least, -1)},
		{"below it", span.Sign(sp(0, middle-1)), re(0, most)},
		{"small ones", span.Sign(sp(3, 5)), re(3, 5)},
		{"one below", span.Sign(sp(middle-1, middle-1)), re(most, most)},
		{"one above", span.Sign(sp(middle, middle)), re(least, least)},
		{"the greatest", span.Sign(sp(max64, max64)), re(-1, -1)},
		{"just over it", span.Sign(sp(middle-1, middle)), all},
		{"from 0 just over it", span.Sign(sp(0, middle)), all},
		{"Full", span.Sign(span.Full()), all},
	})
	checkSpans(t, []spanRow{
		{"below 0", span.Bare(re(-2, -1)), sp(max64-1, max64)},
		{"all below 0", span.Bare(re(least, -1)), sp(middle, max64)},
		{"none below 0", span.Bare(re(0, most)), sp(0, middle-1)},
		{"small ones", span.Bare(re(3, 5)), sp(3, 5)},
		{"-1 alone", span.Bare(re(-1, -1)), sp(max64, max64)},
		{"0 alone", span.Bare(re(0, 0)), sp(0, 0)},
		{"the least alone", span.Bare(re(least, least)), sp(middle, middle)},
		{"just over 0", span.Bare(re(-1, 0)), full},
		{"over 0", span.Bare(re(-2, 3)), full},
		{"All", span.Bare(span.All()), full},
	})
	someSpans, _ := wideSpans()
	for _, a := range someSpans {
		low, high := bigU(a.Low), bigU(a.High)
		want := all
		if a.Low >= middle {
			round := new(big.Int).Exp(bigS(2), bigS(64), nil)
			want = reachOf(low.Sub(low, round), high.Sub(high, round))
		} else if a.High < middle {
			want = reachOf(low, high)
		}
		if got := span.Sign(a); got != want {
			t.Fatalf("Sign(%d): %d, not %d", a, got, want)
		}
	}
	someReaches, _ := wideReaches()
	for _, a := range someReaches {
		low, high := bigS(a.Low), bigS(a.High)
		want := full
		if a.High < 0 {
			round := new(big.Int).Exp(bigS(2), bigS(64), nil)
			want = spanOf(low.Add(low, round), high.Add(high, round))
		} else if a.Low >= 0 {
			want = spanOf(low, high)
		}
		if got := span.Bare(a); got != want {
			t.Fatalf("Bare(%d): %d, not %d", a, got, want)
		}
	}
}

func TestP44WhatIsDoneWithTwoNumbersOfSpansIsThere(t *testing.T) {
	does := map[string]func(x, y uint64) uint64{
		"Add": func(x, y uint64) uint64 { return x + y },
		"Sub": func(x, y uint64) uint64 { return x - y },
		"Mul": func(x, y uint64) uint64 { return x * y },
		"Div": func(x, y uint64) uint64 {
			if y == 0 {
				return 0
			}
			return x / y
		},
		"Mod": func(x, y uint64) uint64 {
			if y == 0 {
				return x
			}
			return x % y
		},
		"Join": func(x, _ uint64) uint64 { return x },
	}
	for name, do := range does {
		for _, a := range smallSpans() {
			for _, b := range smallSpans() {
				got := spanCalls[name](a, b)
				for _, x := range numbersOf(a) {
					for _, y := range numbersOf(b) {
						if !span.Has(got, do(x, y)) {
							t.Fatalf("%s(%d, %d): %d has not what comes of %d and %d", name, a, b, got, x, y)
						}
					}
				}
			}
		}
	}
}

func TestP44WhatIsDoneWithTwoNumbersOfReachesIsThere(t *testing.T) {
	does := map[string]func(x, y int64) int64{
		"Plus":  func(x, y int64) int64 { return x + y },
		"Minus": func(x, y int64) int64 { return x - y },
		"Both":  func(_, y int64) int64 { return y },
	}
	for name, do := range does {
		for _, a := range smallReaches() {
			for _, b := range smallReaches() {
				got := reachCalls[name](a, b)
				for _, x := range heldBy(a) {
					for _, y := range heldBy(b) {
						if !span.Holds(got, do(x, y)) {
							t.Fatalf("%s(%d, %d): %d has not what comes of %d and %d", name, a, b, got, x, y)
						}
					}
				}
			}
		}
	}
}

func TestP44WhatIsDoneWithOneNumberIsThere(t *testing.T) {
	for _, a := range smallSpans() {
		for _, x := range numbersOf(a) {
			for _, n := range counts() {
				if !span.Has(span.Shl(a, n), x<<n) || !span.Has(span.Shr(a, n), x>>n) {
					t.Fatalf("%d of %d, by %d bits", x, a, n)
				}
			}
			if !span.Holds(span.Sign(a), int64(x)) {
				t.Fatalf("Sign(%d) holds not %d", a, x)
			}
		}
	}
	for _, a := range smallReaches() {
		for _, x := range heldBy(a) {
			for _, n := range counts() {
				if !span.Holds(span.Sar(a, n), x>>n) {
					t.Fatalf("Sar(%d, %d) holds not what comes of %d", a, n, x)
				}
			}
			if !span.Has(span.Bare(a), uint64(x)) {
				t.Fatalf("Bare(%d) has not %d", a, x)
			}
		}
	}
}

func TestP44WideOnesHaveWhatComesOfSomeNumbers(t *testing.T) {
	does := map[string]func(x, y uint64) uint64{
		"Add": func(x, y uint64) uint64 { return x + y },
		"Sub": func(x, y uint64) uint64 { return x - y },
		"Mul": func(x, y uint64) uint64 { return x * y },
	}
	inner := func(a api.Span) []uint64 {
		return []uint64{a.Low, a.High, a.Low + (a.High-a.Low)/2, a.Low + (a.High-a.Low)/3}
	}
	some, _ := wideSpans()
	for _, a := range some {
		for _, b := range some {
			for name, do := range does {
				got := spanCalls[name](a, b)
				for _, x := range inner(a) {
					for _, y := range inner(b) {
						if !span.Has(got, do(x, y)) {
							t.Fatalf("%s(%d, %d): %d has not what comes of %d and %d", name, a, b, got, x, y)
						}
					}
				}
			}
		}
	}
}

func TestSpansWithoutANumberBecome1To0(t *testing.T) {
	some, none := wideSpans()
	for name, call := range spanCalls {
		if name == "Join" {
			continue
		}
		for _, a := range none {
			for _, b := range append(some, none...) {
				if got := call(a, b); got != noSpan {
					t.Fatalf("%s(%d, %d): %d", name, a, b, got)
				}
				if got := call(b, a); got != noSpan {
					t.Fatalf("%s(%d, %d): %d", name, b, a, got)
				}
			}
		}
	}
	for _, a := range none {
		for _, n := range counts() {
			if got := span.Shl(a, n); got != noSpan {
				t.Fatalf("Shl(%d, %d): %d", a, n, got)
			}
			if got := span.Shr(a, n); got != noSpan {
				t.Fatalf("Shr(%d, %d): %d", a, n, got)
			}
		}
		if got := span.Sign(a); got != noReach {
			t.Fatalf("Sign(%d): %d", a, got)
		}
	}
}

func TestReachesWithoutANumberBecome1To0(t *testing.T) {
	some, none := wideReaches()
	for name, call := range reachCalls {
		if name == "Both" {
			continue
		}
		for _, a := range none {
			for _, b := range append(some, none...) {
				if got := call(a, b); got != noReach {
					t.Fatalf("%s(%d, %d): %d", name, a, b, got)
				}
				if got := call(b, a); got != noReach {
					t.Fatalf("%s(%d, %d): %d", name, b, a, got)
				}
			}
		}
	}
	for _, a := range none {
		for _, n := range counts() {
			if got := span.Sar(a, n); got != noReach {
				t.Fatalf("Sar(%d, %d): %d", a, n, got)
			}
		}
		if got := span.Bare(a); got != noSpan {
			t.Fatalf("Bare(%d): %d", a, got)
		}
	}
}

func TestP41WithOneWithoutANumberTheOtherOneIsJoined(t *testing.T) {
	someSpans, noneSpans := wideSpans()
	for _, none := range noneSpans {
		for _, a := range someSpans {
			if span.Join(none, a) != a || span.Join(a, none) != a || !span.In(none, a) || span.In(a, none) {
				t.Fatalf("%d and %d", none, a)
			}
		}
		for _, other := range noneSpans {
			if got := span.Join(none, other); got != noSpan || !span.In(none, other) {
				t.Fatalf("%d and %d, both without a number: %d", none, other, got)
			}
		}
	}
	someReaches, noneReaches := wideReaches()
	for _, none := range noneReaches {
		for _, a := range someReaches {
			if span.Both(none, a) != a || span.Both(a, none) != a {
				t.Fatalf("%d and %d", none, a)
			}
		}
		for _, other := range noneReaches {
			if got := span.Both(none, other); got != noReach {
				t.Fatalf("%d and %d, both without a number: %d", none, other, got)
			}
		}
	}
}
