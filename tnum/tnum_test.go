package tnum_test

import (
	"math"
	"math/bits"
	"strings"
	"testing"

	"warden/api"
	"warden/tnum"
)

const (
	max64   = math.MaxUint64
	highest = 1 << 63
)

var all = api.Tnum{Mask: max64}

type two func(a, b api.Tnum) api.Tnum

// moves has the calls that take a tnum and so many bits.
var moves = map[string]func(t api.Tnum, n uint) api.Tnum{"Low": tnum.Low, "Shl": tnum.Shl, "Shr": tnum.Shr, "Sar": tnum.Sar}

// tn reads a tnum's bits, the highest first: 0, 1, or x if it may be either; in front of them stand zeros.
func tn(text string) api.Tnum {
	var t api.Tnum
	for _, c := range strings.ReplaceAll(text, " ", "") {
		t.Value, t.Mask = t.Value<<1, t.Mask<<1
		switch c {
		case '1':
			t.Value |= 1
		case 'x':
			t.Mask |= 1
		}
	}
	return t
}

// A set of bits is what one bit of a number may be: 0 (one), 1 (two), either (three).
type set uint8

const (
	zero   set = 1
	one    set = 2
	either set = 3
)

func (s set) has(bit uint) bool { return s>>bit&1 == 1 }

// bitSet is what the i-th bit of the tnum may be.
func bitSet(t api.Tnum, i int) set {
	switch {
	case t.Mask>>i&1 == 1:
		return either
	case t.Value>>i&1 == 1:
		return one
	}
	return zero
}

// made puts a tnum together by what each of its bits may be.
func made(bit func(i int) set) api.Tnum {
	var t api.Tnum
	for i := range 64 {
		switch bit(i) {
		case one:
			t.Value |= 1 << i
		case either:
			t.Mask |= 1 << i
		}
	}
	return t
}

// of is what may come of one bit of each set.
func of(p, q set, does func(x, y uint) uint) set {
	var s set
	for x := range uint(2) {
		for y := range uint(2) {
			if p.has(x) && q.has(y) {
				s |= 1 << (does(x, y) & 1)
			}
		}
	}
	return s
}

// bitwise is what becomes of two tnums, if it is done bit by bit.
func bitwise(a, b api.Tnum, does func(x, y uint) uint) api.Tnum {
	return made(func(i int) set { return of(bitSet(a, i), bitSet(b, i), does) })
}

// carrying is what becomes of two tnums by a sum or a difference, as it is done by hand, with all that may be carried: what a bit carries hangs on lower bits alone, so that just those bits are known that are alike in all that may come out.
func carrying(a, b api.Tnum, carries func(x, y, c uint) uint) api.Tnum {
	carried := zero
	return made(func(i int) set {
		p, q := bitSet(a, i), bitSet(b, i)
		odd := func(x, y uint) uint { return x ^ y }
		bit := of(of(p, q, odd), carried, odd)
		var next set
		for c := range uint(2) {
			if carried.has(c) {
				next |= of(p, q, func(x, y uint) uint { return carries(x, y, c) })
			}
		}
		carried = next
		return bit
	})
}

func sums(a, b api.Tnum) api.Tnum {
	return carrying(a, b, func(x, y, c uint) uint { return (x + y + c) / 2 })
}

func differences(a, b api.Tnum) api.Tnum {
	return carrying(a, b, func(x, y, c uint) uint {
		if x < y+c {
			return 1
		}
		return 0
	})
}

// moved is a tnum whose i-th bit is that of t so many places further; where there is none, beyond says what it is.
func moved(t api.Tnum, places int, beyond set) api.Tnum {
	return made(func(i int) set {
		if i+places < 0 || i+places > 63 {
			return beyond
		}
		return bitSet(t, i+places)
	})
}

// products is what P3.3 says, word by word, done by hand.
func products(a, b api.Tnum) api.Tnum {
	var t api.Tnum
	for i := range 64 {
		switch bitSet(a, i) {
		case one:
			t = sums(t, moved(api.Tnum{Mask: b.Mask}, -i, zero))
		case either:
			t = sums(t, moved(api.Tnum{Mask: b.Mask | b.Value}, -i, zero))
		}
	}
	return sums(t, api.Tnum{Value: a.Value * b.Value})
}

// edges has numbers next to where numbers end, and such as have no pattern.
func edges() []uint64 {
	l := []uint64{0, 1, 2, 3, 4, 5, 6, 7, 8, 255, 256, 0x5555555555555555, 0xaaaaaaaaaaaaaaaa, 0x0123456789abcdef, 0xfedcba9876543210}
	for _, p := range []uint64{1 << 31, 1 << 32, 1 << 62, 1 << 63, 0} {
		l = append(l, p-2, p-1, p, p+1, -p-1)
	}
	return l
}

// wide has tnums of all sizes: each of the edges with some masks, once each.
func wide() []api.Tnum {
	var l []api.Tnum
	there := map[api.Tnum]bool{}
	for _, v := range edges() {
		for _, m := range []uint64{0, 1, 6, highest, max64, max64 - math.MaxUint32, 0x0f0f0f0f0f0f0f0f, 1<<63 | 1<<32 | 1<<31 | 1} {
			if t := (api.Tnum{Value: v &^ m, Mask: m}); !there[t] {
				there[t] = true
				l = append(l, t)
			}
		}
	}
	return l
}

// small has all tnums whose bits stand at those places, the others being 0.
func small(places []int) []api.Tnum {
	l := []api.Tnum{{}}
	for _, p := range places {
		for _, t := range l {
			l = append(l, api.Tnum{Value: t.Value | 1<<p, Mask: t.Mask}, api.Tnum{Value: t.Value, Mask: t.Mask | 1<<p})
		}
	}
	return l
}

// placings has where the bits of small tnums stand: at the lower end, at the upper one, where sums go round, and all over.
func placings() [][]int {
	return [][]int{{0, 1, 2, 3}, {60, 61, 62, 63}, {0, 31, 32, 63}, {0, 1, 62, 63}}
}

// numbersOf has all numbers of a tnum: its Value with each part of its Mask.
func numbersOf(t api.Tnum) []uint64 {
	l := []uint64{t.Value}
	for part := t.Mask; part != 0; part = (part - 1) & t.Mask {
		l = append(l, t.Value|part)
	}
	return l
}

// least is the least tnum that has all the numbers: a bit is known, if it is alike in all.
func least(numbers []uint64) api.Tnum {
	and, or := uint64(max64), uint64(0)
	for _, x := range numbers {
		and, or = and&x, or|x
	}
	return api.Tnum{Value: and, Mask: or &^ and}
}

type row struct {
	name      string
	got, want api.Tnum
}

func check(t *testing.T, rows []row) {
	t.Helper()
	for _, r := range rows {
		if r.got != r.want {
			t.Errorf("%s: %x, not %x", r.name, r.got, r.want)
		}
	}
}

func TestP31MayTellsBitsThatAreBoth(t *testing.T) {
	for _, r := range []struct {
		t    api.Tnum
		want bool
	}{
		{api.Tnum{}, true},
		{api.Tnum{Value: 5}, true},
		{all, true},
		{api.Tnum{Value: max64}, true},
		{api.Tnum{Value: 4, Mask: 3}, true},
		{api.Tnum{Value: highest, Mask: highest - 1}, true},
		{api.Tnum{Value: 1, Mask: 1}, false},
		{api.Tnum{Value: 5, Mask: 6}, false},
		{api.Tnum{Value: highest, Mask: highest}, false},
		{api.Tnum{Value: highest | 1, Mask: highest | 2}, false},
		{api.Tnum{Value: 1, Mask: max64}, false},
		{api.Tnum{Value: max64, Mask: max64}, false},
	} {
		if got := tnum.May(r.t); got != r.want {
			t.Errorf("May(%x): %v", r.t, got)
		}
	}
	for i := range 64 {
		if tnum.May(api.Tnum{Value: max64, Mask: 1 << i}) || !tnum.May(api.Tnum{Value: max64 &^ (1 << i), Mask: 1 << i}) {
			t.Error("May, bit", i)
		}
	}
}

func TestP31HasTellsItsNumbers(t *testing.T) {
	a := tn("0x1x")
	for x := range uint64(32) {
		want := x == 2 || x == 3 || x == 6 || x == 7
		if got := tnum.Has(a, x); got != want {
			t.Errorf("Has(%x, %d): %v", a, x, got)
		}
	}
	for _, places := range placings() {
		l := small(places)
		for _, u := range l {
			is := map[uint64]bool{}
			for _, x := range numbersOf(u) {
				is[x] = true
			}
			for _, x := range edges() {
				if got := tnum.Has(u, x); got != is[x] {
					t.Errorf("Has(%x, %x): %v", u, x, got)
				}
			}
			for _, v := range l {
				if got := tnum.Has(u, v.Value); got != is[v.Value] {
					t.Errorf("Has(%x, %x): %v", u, v.Value, got)
				}
			}
		}
	}
	for _, x := range edges() {
		if !tnum.Has(all, x) || !tnum.Has(tnum.Const(x), x) || tnum.Has(tnum.Const(x), x^highest) || tnum.Has(tnum.Const(x), x^1) {
			t.Errorf("Has, %x", x)
		}
	}
}

func TestP31InTellsWhetherAllAreThere(t *testing.T) {
	a := tn("x1")
	for _, r := range []struct {
		a, b api.Tnum
		want bool
	}{
		{tnum.Const(3), a, true},
		{a, tnum.Const(3), false},
		{a, a, true},
		{tnum.Const(2), a, false},
		{a, tn("xx"), true},
		{tn("xx"), a, false},
		{tn("x0"), a, false},
		{a, all, true},
		{all, a, false},
		{all, all, true},
	} {
		if got := tnum.In(r.a, r.b); got != r.want {
			t.Errorf("In(%x, %x): %v", r.a, r.b, got)
		}
	}
	for _, places := range placings() {
		l := small(places)
		for _, u := range l {
			for _, v := range l {
				want := true
				for _, x := range numbersOf(u) {
					want = want && tnum.Has(v, x)
				}
				if got := tnum.In(u, v); got != want {
					t.Errorf("In(%x, %x): %v", u, v, got)
				}
			}
		}
	}
}

func TestP31ConstIsOneNumber(t *testing.T) {
	for _, x := range edges() {
		if got := tnum.Const(x); got != (api.Tnum{Value: x}) {
			t.Errorf("Const(%x): %x", x, got)
		}
	}
}

func TestP31RangeKnowsTheBitsAbove(t *testing.T) {
	check(t, []row{
		{"the chapter's", tnum.Range(4, 7), api.Tnum{Value: 4, Mask: 3}},
		{"not a whole one", tnum.Range(5, 6), api.Tnum{Value: 4, Mask: 3}},
		{"one apart", tnum.Range(7, 8), api.Tnum{Mask: 15}},
		{"from 0", tnum.Range(0, 1), api.Tnum{Mask: 1}},
		{"low as high", tnum.Range(9, 9), tnum.Const(9)},
		{"low as high, 0", tnum.Range(0, 0), tnum.Const(0)},
		{"low as high, all bits", tnum.Range(max64, max64), tnum.Const(max64)},
		{"low above high", tnum.Range(7, 4), all},
		{"low above high by one", tnum.Range(1, 0), all},
		{"low above high by all", tnum.Range(max64, 0), all},
		{"the highest bit differs", tnum.Range(highest-1, highest), all},
		{"the highest bit differs, most", tnum.Range(0, max64), all},
		{"the highest bit alike", tnum.Range(highest, max64), api.Tnum{Value: highest, Mask: highest - 1}},
		{"the one below it differs", tnum.Range(0, highest-1), api.Tnum{Mask: highest - 1}},
		{"the lowest differs, at the end", tnum.Range(max64-1, max64), api.Tnum{Value: max64 - 1, Mask: 1}},
	})
	for _, low := range edges() {
		for _, high := range edges() {
			want := all
			if low <= high {
				from := 0 // the lowest bit such that all from it on are alike
				for from < 64 && low>>from != high>>from {
					from++
				}
				want = made(func(i int) set {
					if i < from {
						return either
					}
					return bitSet(api.Tnum{Value: high}, i)
				})
			}
			if got := tnum.Range(low, high); got != want {
				t.Errorf("Range(%x, %x): %x, not %x", low, high, got, want)
			}
		}
	}
}

func TestP31RangeHasAllBetween(t *testing.T) {
	for _, base := range []uint64{0, 1<<32 - 16, highest - 16, max64 - 31} {
		for low := base; low < base+31; low++ {
			for high := low; high < base+31; high++ {
				r := tnum.Range(low, high)
				for x := low; x <= high; x++ {
					if !tnum.Has(r, x) {
						t.Errorf("Range(%x, %x): %x has not %x", low, high, r, x)
					}
				}
			}
		}
	}
}

func TestP31JoinKnowsWhatBothKnowAlike(t *testing.T) {
	check(t, []row{
		{"1 and 3", tnum.Join(tnum.Const(1), tnum.Const(3)), tn("x1")},
		{"alike", tnum.Join(tnum.Const(6), tnum.Const(6)), tnum.Const(6)},
		{"all pairs of bits", tnum.Join(tn("000 111 xxx"), tn("01x 01x 01x")), tn("0xx x1x xxx")},
		{"nothing alike", tnum.Join(tnum.Const(0), tnum.Const(max64)), all},
		{"the highest bit", tnum.Join(tnum.Const(highest), tnum.Const(0)), api.Tnum{Mask: highest}},
		{"with all", tnum.Join(tnum.Const(5), all), all},
	})
	eachTwo(t, "Join", tnum.Join, func(a, b api.Tnum) api.Tnum {
		return made(func(i int) set { return bitSet(a, i) | bitSet(b, i) })
	})
}

// eachTwo holds a call against its reckoning, for each two of the wide tnums and of the small ones.
func eachTwo(t *testing.T, name string, does, want two) {
	t.Helper()
	lists := [][]api.Tnum{wide()}
	for _, places := range placings() {
		lists = append(lists, small(places))
	}
	for _, l := range lists {
		for _, a := range l {
			for _, b := range l {
				got, w := does(a, b), want(a, b)
				if got != w {
					t.Fatalf("%s(%x, %x): %x, not %x", name, a, b, got, w)
				}
			}
		}
	}
}

func TestP31MeetKnowsWhatOneKnows(t *testing.T) {
	for _, r := range []struct {
		a, b, want api.Tnum
		is         bool
	}{
		{tn("x1"), tn("1x"), tn("11"), true},
		{tn("x1"), tn("10"), api.Tnum{}, false},
		{tn("0011xxx"), tn("0x1x01x"), tn("001101x"), true},
		{tnum.Const(6), tnum.Const(6), tnum.Const(6), true},
		{tnum.Const(6), tnum.Const(7), api.Tnum{}, false},
		{tnum.Const(highest), tnum.Const(0), api.Tnum{}, false},
		{api.Tnum{Value: highest, Mask: highest - 1}, api.Tnum{Mask: highest - 1}, api.Tnum{}, false},
		{api.Tnum{Value: highest, Mask: 7}, api.Tnum{Value: 5, Mask: highest}, tnum.Const(highest | 5), true},
		{all, tnum.Const(9), tnum.Const(9), true},
		{tnum.Const(9), all, tnum.Const(9), true},
		{all, all, all, true},
	} {
		got, is := tnum.Meet(r.a, r.b)
		if got != r.want || is != r.is {
			t.Errorf("Meet(%x, %x): %x, %v", r.a, r.b, got, is)
		}
	}
}

func TestP31MeetBitByBit(t *testing.T) {
	meet := func(a, b api.Tnum) (api.Tnum, bool) {
		is := true
		m := made(func(i int) set {
			s := bitSet(a, i) & bitSet(b, i)
			is = is && s != 0
			return s
		})
		if !is {
			return api.Tnum{}, false
		}
		return m, true
	}
	eachTwo(t, "Meet", func(a, b api.Tnum) api.Tnum { m, _ := tnum.Meet(a, b); return m }, func(a, b api.Tnum) api.Tnum { m, _ := meet(a, b); return m })
	for _, a := range wide() {
		for _, b := range wide() {
			_, got := tnum.Meet(a, b)
			if _, want := meet(a, b); got != want {
				t.Errorf("Meet(%x, %x): %v", a, b, got)
			}
		}
	}
}

func TestP31MeetHasWhatBothHave(t *testing.T) {
	for _, places := range placings() {
		l := small(places)
		for _, a := range l {
			for _, b := range l {
				var both []uint64
				for _, x := range numbersOf(a) {
					if tnum.Has(b, x) {
						both = append(both, x)
					}
				}
				m, is := tnum.Meet(a, b)
				if is != (len(both) > 0) || is && m != least(both) {
					t.Errorf("Meet(%x, %x): %x, %v; both have %x", a, b, m, is, both)
				}
			}
		}
	}
}

func TestP31LowKeepsTheLowestBits(t *testing.T) {
	a := api.Tnum{Value: highest | 0x1230, Mask: 1<<62 | 0xf}
	check(t, []row{
		{"8 of a number", tnum.Low(tnum.Const(0x1234), 8), tnum.Const(0x34)},
		{"none", tnum.Low(a, 0), tnum.Const(0)},
		{"none of all", tnum.Low(all, 0), tnum.Const(0)},
		{"one", tnum.Low(all, 1), api.Tnum{Mask: 1}},
		{"6", tnum.Low(a, 6), api.Tnum{Value: 0x30, Mask: 0xf}},
		{"32", tnum.Low(all, 32), api.Tnum{Mask: 1<<32 - 1}},
		{"62", tnum.Low(a, 62), api.Tnum{Value: 0x1230, Mask: 0xf}},
		{"63", tnum.Low(a, 63), api.Tnum{Value: 0x1230, Mask: 1<<62 | 0xf}},
		{"64", tnum.Low(a, 64), a},
		{"65", tnum.Low(a, 65), a},
		{"as many as there are", tnum.Low(a, math.MaxUint), a},
	})
	eachMove(t, "Low", func(t api.Tnum, n uint) api.Tnum {
		return made(func(i int) set {
			if uint(i) >= n {
				return zero
			}
			return bitSet(t, i)
		})
	})
}

// counts has so many bits: all that there are, those next to the end, and more.
func counts() []uint {
	var l []uint
	for n := range uint(131) {
		l = append(l, n)
	}
	return append(l, 255, 256, 257, 1<<31, 1<<32, 1<<32+1, 1<<63, math.MaxUint-1, math.MaxUint)
}

// eachMove holds a call by so many bits against its reckoning, for the wide tnums.
func eachMove(t *testing.T, name string, want func(t api.Tnum, n uint) api.Tnum) {
	t.Helper()
	for _, a := range wide() {
		for _, n := range counts() {
			if got, w := moves[name](a, n), want(a, n); got != w {
				t.Fatalf("%s(%x, %d): %x, not %x", name, a, n, got, w)
			}
		}
	}
}

func TestP32AddAndSub(t *testing.T) {
	a := tn("x1")
	check(t, []row{
		{"1 or 3, and 1", tnum.Add(a, tnum.Const(1)), api.Tnum{Mask: 6}},
		{"numbers", tnum.Add(tnum.Const(40), tnum.Const(2)), tnum.Const(42)},
		{"0 adds nothing", tnum.Add(tn("1x0"), tnum.Const(0)), tn("1x0")},
		{"nothing is carried", tnum.Add(tn("x0"), tn("0x")), tn("xx")},
		{"both not known", tnum.Add(tn("x"), tn("x")), tn("xx")},
		{"carried through", tnum.Add(tn("0111x"), tnum.Const(1)), tn("xxxxx")},
		{"stopped by a 0", tnum.Add(tn("01011x"), tnum.Const(1)), tn("01xxxx")},
		{"round at the end", tnum.Add(tnum.Const(max64), tnum.Const(1)), tnum.Const(0)},
		{"round at the end, both great", tnum.Add(tnum.Const(max64), tnum.Const(max64)), tnum.Const(max64 - 1)},
		{"perhaps round", tnum.Add(api.Tnum{Value: max64 - 1, Mask: 1}, tnum.Const(1)), all},
		{"the highest bit is carried out", tnum.Add(api.Tnum{Mask: highest}, tnum.Const(highest)), api.Tnum{Mask: highest}},
		{"all and 1", tnum.Add(all, tnum.Const(1)), all},
		{"Masks go round", tnum.Add(api.Tnum{Mask: highest}, api.Tnum{Value: 5, Mask: highest}), api.Tnum{Value: 5, Mask: highest}},

		{"1 or 3, less 1", tnum.Sub(a, tnum.Const(1)), api.Tnum{Mask: 2}},
		{"numbers, less", tnum.Sub(tnum.Const(42), tnum.Const(2)), tnum.Const(40)},
		{"less 0", tnum.Sub(tn("1x0"), tnum.Const(0)), tn("1x0")},
		{"what is less is not known", tnum.Sub(tnum.Const(4), tn("x")), tn("xxx")},
		{"stopped by a 1", tnum.Sub(tn("10100x"), tnum.Const(1)), tn("10xxxx")},
		{"less itself is not sure", tnum.Sub(tn("x0"), tn("x0")), api.Tnum{Mask: max64 - 1}},
		{"below 0", tnum.Sub(tnum.Const(0), tnum.Const(1)), tnum.Const(max64)},
		{"far below 0", tnum.Sub(tnum.Const(0), tnum.Const(max64)), tnum.Const(1)},
		{"perhaps below 0", tnum.Sub(tn("x"), tnum.Const(1)), all},
		{"the highest bit", tnum.Sub(api.Tnum{Mask: highest}, tnum.Const(highest)), api.Tnum{Mask: highest}},
		{"less the highest bit perhaps", tnum.Sub(tnum.Const(5), api.Tnum{Mask: highest}), api.Tnum{Value: 5, Mask: highest}},
		{"1 less all", tnum.Sub(tnum.Const(1), all), all},
	})
	eachTwo(t, "Add", tnum.Add, sums)
	eachTwo(t, "Sub", tnum.Sub, differences)
}

func TestP32AndOrXor(t *testing.T) {
	p, q := tn("000 111 xxx"), tn("01x 01x 01x")
	check(t, []row{
		{"and, all pairs of bits", tnum.And(p, q), tn("000 01x 0xx")},
		{"or, all pairs of bits", tnum.Or(p, q), tn("01x 111 x1x")},
		{"xor, all pairs of bits", tnum.Xor(p, q), tn("01x 10x xxx")},
		{"1 or 3, and 2", tnum.And(tn("x1"), tnum.Const(2)), api.Tnum{Mask: 2}},
		{"1 or 3, or 2", tnum.Or(tn("x1"), tnum.Const(2)), tnum.Const(3)},
		{"1 or 3, xor 1", tnum.Xor(tn("x1"), tnum.Const(1)), api.Tnum{Mask: 2}},
		{"all and 0", tnum.And(all, tnum.Const(0)), tnum.Const(0)},
		{"all and a number", tnum.And(all, tnum.Const(highest|1)), api.Tnum{Mask: highest | 1}},
		{"all or all bits", tnum.Or(all, tnum.Const(max64)), tnum.Const(max64)},
		{"all or a number", tnum.Or(tnum.Const(highest|1), all), api.Tnum{Value: highest | 1, Mask: max64 &^ (highest | 1)}},
		{"all xor a number", tnum.Xor(all, tnum.Const(5)), all},
		{"xor of numbers", tnum.Xor(tnum.Const(highest|6), tnum.Const(3)), tnum.Const(highest | 5)},
	})
	eachTwo(t, "And", tnum.And, func(a, b api.Tnum) api.Tnum {
		return bitwise(a, b, func(x, y uint) uint { return x * y })
	})
	eachTwo(t, "Or", tnum.Or, func(a, b api.Tnum) api.Tnum {
		return bitwise(a, b, func(x, y uint) uint { return max(x, y) })
	})
	eachTwo(t, "Xor", tnum.Xor, func(a, b api.Tnum) api.Tnum {
		return bitwise(a, b, func(x, y uint) uint { return x + y })
	})
}

func TestP32ShlAndShr(t *testing.T) {
	a := tn("x1")
	b := api.Tnum{Value: highest, Mask: 1<<62 | 1}
	check(t, []row{
		{"1 or 3, up", tnum.Shl(a, 4), api.Tnum{Value: 16, Mask: 32}},
		{"up by 0", tnum.Shl(b, 0), b},
		{"up by 1: the highest bit goes", tnum.Shl(b, 1), api.Tnum{Mask: highest | 2}},
		{"up by 63", tnum.Shl(b, 63), api.Tnum{Mask: highest}},
		{"a number up by 63", tnum.Shl(tnum.Const(3), 63), tnum.Const(highest)},
		{"up by 64", tnum.Shl(all, 64), tnum.Const(0)},
		{"a number up by 64", tnum.Shl(tnum.Const(max64), 64), tnum.Const(0)},
		{"up by 65", tnum.Shl(all, 65), tnum.Const(0)},
		{"up by the most", tnum.Shl(tnum.Const(max64), math.MaxUint), tnum.Const(0)},

		{"1 or 3, down", tnum.Shr(a, 1), api.Tnum{Mask: 1}},
		{"down by 0", tnum.Shr(b, 0), b},
		{"down by 1: zeros come in", tnum.Shr(b, 1), api.Tnum{Value: 1 << 62, Mask: 1 << 61}},
		{"down by 63", tnum.Shr(b, 63), tnum.Const(1)},
		{"all down by 63", tnum.Shr(all, 63), api.Tnum{Mask: 1}},
		{"down by 64", tnum.Shr(all, 64), tnum.Const(0)},
		{"a number down by 64", tnum.Shr(tnum.Const(max64), 64), tnum.Const(0)},
		{"down by 65", tnum.Shr(all, 65), tnum.Const(0)},
		{"down by the most", tnum.Shr(tnum.Const(max64), math.MaxUint), tnum.Const(0)},
	})
	eachMove(t, "Shl", func(t api.Tnum, n uint) api.Tnum { return moved(t, -int(min(n, 64)), zero) })
	eachMove(t, "Shr", func(t api.Tnum, n uint) api.Tnum { return moved(t, int(min(n, 64)), zero) })
}

func TestP32Sar(t *testing.T) {
	with0 := api.Tnum{Value: 1<<62 | 2, Mask: 1}
	with1 := api.Tnum{Value: highest, Mask: 1<<62 | 1}
	unknown := api.Tnum{Value: 1 << 62, Mask: highest | 4}
	for _, a := range []api.Tnum{with0, with1, unknown} {
		check(t, []row{{"by 0", tnum.Sar(a, 0), a}})
	}
	for _, n := range []uint{63, 64, 65, 127, 128, 1 << 32, 1 << 63, math.MaxUint} {
		check(t, []row{
			{"all gone, 0", tnum.Sar(with0, n), tnum.Const(0)},
			{"all gone, 1", tnum.Sar(with1, n), tnum.Const(max64)},
			{"all gone, not known", tnum.Sar(unknown, n), all},
		})
	}
	check(t, []row{
		{"0 comes in", tnum.Sar(with0, 1), api.Tnum{Value: 1<<61 | 1}},
		{"1 comes in", tnum.Sar(with1, 1), api.Tnum{Value: 3 << 62, Mask: 1 << 61}},
		{"either comes in", tnum.Sar(unknown, 1), api.Tnum{Value: 1 << 61, Mask: 3<<62 | 2}},
		{"by 62, 0", tnum.Sar(with0, 62), tnum.Const(1)},
		{"by 62, 1", tnum.Sar(with1, 62), api.Tnum{Value: max64 - 1, Mask: 1}},
		{"by 62, not known", tnum.Sar(unknown, 62), api.Tnum{Value: 1, Mask: max64 - 1}},
		{"a number below 0", tnum.Sar(tnum.Const(max64-7), 2), tnum.Const(max64 - 1)},
	})
	eachMove(t, "Sar", func(t api.Tnum, n uint) api.Tnum { return moved(t, int(min(n, 63)), bitSet(t, 63)) })
}

func TestP33Mul(t *testing.T) {
	check(t, []row{
		{"numbers", tnum.Mul(tnum.Const(3), tnum.Const(5)), tnum.Const(15)},
		{"0 and all", tnum.Mul(tnum.Const(0), all), tnum.Const(0)},
		{"all and 0", tnum.Mul(all, tnum.Const(0)), tnum.Const(0)},
		{"1 and all", tnum.Mul(tnum.Const(1), all), all},
		{"all and 1", tnum.Mul(all, tnum.Const(1)), all},
		{"all and all", tnum.Mul(all, all), all},
		{"1 and a tnum", tnum.Mul(tnum.Const(1), tn("1x0")), tn("1x0")},
		{"a tnum and 1", tnum.Mul(tn("1x0"), tnum.Const(1)), tn("1x0")},
		{"2 and a tnum", tnum.Mul(tnum.Const(2), tn("x1x")), tn("x1x0")},
		{"0 or 1, and 3", tnum.Mul(tn("x"), tnum.Const(3)), tn("xx")},
		{"3, and 0 or 1", tnum.Mul(tnum.Const(3), tn("x")), tn("xx")},
		{"3, and 1 or 3", tnum.Mul(tnum.Const(3), tn("x1")), tn("xxx1")},
		{"1 or 3, and 3", tnum.Mul(tn("x1"), tnum.Const(3)), tn("xxx1")},
		{"numbers go round", tnum.Mul(tnum.Const(max64), tnum.Const(max64)), tnum.Const(1)},
		{"nothing is left of it", tnum.Mul(tnum.Const(1<<32), tnum.Const(1<<32)), tnum.Const(0)},
		{"what is not known goes round", tnum.Mul(api.Tnum{Mask: highest}, tnum.Const(2)), tnum.Const(0)},
		{"the highest bit, and odd ones", tnum.Mul(tnum.Const(highest), tn("x1")), tnum.Const(highest)},
		{"the highest bit not known, and odd ones", tnum.Mul(api.Tnum{Mask: highest}, tn("x1")), api.Tnum{Mask: highest}},
		{"some go round", tnum.Mul(tnum.Const(max64), tn("x")), all},
		{"even ones and even ones", tnum.Mul(api.Tnum{Mask: max64 - 1}, api.Tnum{Mask: max64 - 1}), api.Tnum{Mask: max64 - 3}},
	})
	eachTwo(t, "Mul", tnum.Mul, products)
}

// doings has, beside each call with two tnums, what is done with two numbers, and whether its answer is the least.
func doings() []struct {
	name  string
	tnums two
	does  func(x, y uint64) uint64
	least bool
} {
	return []struct {
		name  string
		tnums two
		does  func(x, y uint64) uint64
		least bool
	}{
		{"Add", tnum.Add, func(x, y uint64) uint64 { return x + y }, true},
		{"Sub", tnum.Sub, func(x, y uint64) uint64 { return x - y }, true},
		{"And", tnum.And, func(x, y uint64) uint64 { return x & y }, true},
		{"Or", tnum.Or, func(x, y uint64) uint64 { return x | y }, true},
		{"Xor", tnum.Xor, func(x, y uint64) uint64 { return x ^ y }, true},
		{"Join, of a", tnum.Join, func(x, _ uint64) uint64 { return x }, false},
		{"Join, of b", tnum.Join, func(_, y uint64) uint64 { return y }, false},
		{"Mul", tnum.Mul, func(x, y uint64) uint64 { return x * y }, false},
	}
}

func TestP34WhatIsDoneWithTwoNumbersIsThere(t *testing.T) {
	for _, places := range placings() {
		l := small(places)
		for _, d := range doings() {
			for _, a := range l {
				for _, b := range l {
					got := d.tnums(a, b)
					var come []uint64
					for _, x := range numbersOf(a) {
						for _, y := range numbersOf(b) {
							come = append(come, d.does(x, y))
						}
					}
					want := least(come)
					if !tnum.May(got) || !tnum.In(want, got) || d.least && got != want {
						t.Fatalf("%s(%x, %x): %x, where %x come", d.name, a, b, got, come)
					}
				}
			}
		}
	}
}

func TestP34JoinIsTheLeast(t *testing.T) {
	for _, places := range placings() {
		l := small(places)
		for _, a := range l {
			for _, b := range l {
				want := least(append(numbersOf(a), numbersOf(b)...))
				if got := tnum.Join(a, b); got != want {
					t.Fatalf("Join(%x, %x): %x, not %x", a, b, got, want)
				}
			}
		}
	}
}

func TestP34WhatIsDoneWithOneNumberIsThere(t *testing.T) {
	does := map[string]func(x uint64, n uint) uint64{
		"Low": func(x uint64, n uint) uint64 { return x - x>>n<<n },
		"Shl": func(x uint64, n uint) uint64 { return x << n },
		"Shr": func(x uint64, n uint) uint64 { return x >> n },
		"Sar": func(x uint64, n uint) uint64 { return uint64(int64(x) >> min(n, 63)) },
	}
	for name, move := range moves {
		for _, places := range placings() {
			for _, a := range small(places) {
				for _, n := range counts() {
					var come []uint64
					for _, x := range numbersOf(a) {
						come = append(come, does[name](x, n))
					}
					if got := move(a, n); !tnum.May(got) || !tnum.In(least(come), got) {
						t.Fatalf("%s(%x, %d): %x, where %x come", name, a, n, got, come)
					}
				}
			}
		}
	}
}

func TestP34WideTnumsHaveWhatComesOfSomeNumbers(t *testing.T) {
	some := func(t api.Tnum) []uint64 {
		l := []uint64{t.Value, t.Value | t.Mask}
		for _, x := range edges() {
			l = append(l, t.Value|x&t.Mask)
		}
		return l
	}
	for _, d := range doings() {
		for i, a := range wide() {
			for j, b := range wide() {
				if (i+j)%7 != 0 {
					continue
				}
				got := d.tnums(a, b)
				ys := some(b)
				for k, x := range some(a) {
					y := ys[(7*k+i)%len(ys)]
					if !tnum.Has(got, d.does(x, y)) {
						t.Fatalf("%s(%x, %x): %x has not what comes of %x and %x", d.name, a, b, got, x, y)
					}
				}
			}
		}
	}
}

// broken has tnums that may not be: small ones, all of them, and some that are wide.
func broken() []api.Tnum {
	var l []api.Tnum
	for v := range uint64(8) {
		for m := range uint64(8) {
			if v&m != 0 {
				l = append(l, api.Tnum{Value: v, Mask: m})
			}
		}
	}
	for _, v := range edges() {
		if v != 0 {
			l = append(l, api.Tnum{Value: v, Mask: max64}, api.Tnum{Value: v, Mask: v}, api.Tnum{Value: max64, Mask: v}, api.Tnum{Value: v, Mask: 1 << (bits.Len64(v) - 1)})
		}
	}
	return l
}

func TestTnumsThatMayNotBeAreTold(t *testing.T) {
	for _, a := range broken() {
		if tnum.May(a) {
			t.Errorf("May(%x)", a)
		}
	}
}

func TestCallsEndWithTnumsThatMayNotBe(t *testing.T) {
	wrong := broken()
	ended := 0
	for _, a := range wrong {
		for _, b := range append([]api.Tnum{{}, tnum.Const(6), all}, wrong...) {
			for _, d := range doings() {
				d.tnums(a, b)
				d.tnums(b, a)
				ended++
			}
			tnum.Meet(a, b)
			tnum.Meet(b, a)
			tnum.In(a, b)
			tnum.In(b, a)
			tnum.Has(a, b.Value)
		}
		for _, n := range counts() {
			for _, move := range moves {
				move(a, n)
				ended++
			}
		}
	}
	if ended == 0 {
		t.Error("nothing was called")
	}
}
