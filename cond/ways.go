package cond

import (
	"warden/api"
	"warden/bound"
)

type number interface {
	uint64 | int64
}

// row has the ends of a span, or of a reach, so that both are compared alike.
type row[N number] struct {
	Low, High N
}

// The places of both ways in their row.
const (
	bare = iota
	signed
)

// order makes a's numbers greater than b's, by gap at least, in one way of both; false, if none are.
type order func(a, b *api.Bound, gap uint8) bool

// orders has both ways in which numbers have an order: without a sign, and with one.
func orders(wide bool) []order {
	all := bound.Any()
	return []order{
		func(a, b *api.Bound, gap uint8) bool {
			x, y := spanOf(a, wide), spanOf(b, wide)
			low, high, is := apart(row[uint64](*x), row[uint64](*y), row[uint64](*spanOf(&all, wide)), uint64(gap))
			x.Low, y.High = low, high
			return is
		},
		func(a, b *api.Bound, gap uint8) bool {
			x, y := reachOf(a, wide), reachOf(b, wide)
			low, high, is := apart(row[int64](*x), row[int64](*y), row[int64](*reachOf(&all, wide)), int64(gap))
			x.Low, y.High = low, high
			return is
		},
	}
}

// withouts has both ways in which a number may be taken from a bound.
func withouts(wide bool) []func(b *api.Bound, n uint64) {
	return []func(b *api.Bound, n uint64){
		func(b *api.Bound, n uint64) {
			x := spanOf(b, wide)
			*x = api.Span(without(row[uint64](*x), n))
		},
		func(b *api.Bound, n uint64) {
			x := reachOf(b, wide)
			*x = api.Reach(without(row[int64](*x), signOf(n, wide)))
		},
	}
}

// apart answers where the greater row begins, and where the lesser one ends; false, if there is no number so far above the one, or below the other one, at all.
func apart[N number](greater, lesser, all row[N], gap N) (low, high N, is bool) {
	if gap > 0 && (lesser.Low >= all.High || greater.High <= all.Low) {
		return 0, 0, false
	}
	return max(greater.Low, lesser.Low+gap), min(lesser.High, greater.High-gap), true
}

// without answers the row with the end that is n gone in by one: a number between the ends can't be taken from it.
func without[N number](r row[N], n N) row[N] {
	switch {
	case r.Low == n && r.High == n:
		return row[N]{Low: 1} // the next one may be beyond all numbers, or go round
	case r.Low == n:
		r.Low++
	case r.High == n:
		r.High--
	}
	return r
}

// spanOf is the way without a sign in which numbers, or their lower halves, are asked about.
func spanOf(b *api.Bound, wide bool) *api.Span {
	if wide {
		return &b.U
	}
	return &b.W
}

// reachOf is the same with a sign.
func reachOf(b *api.Bound, wide bool) *api.Reach {
	if wide {
		return &b.S
	}
	return &b.V
}

// signOf is the number that is asked about, with its sign.
func signOf(n uint64, wide bool) int64 {
	if wide {
		return int64(n)
	}
	return int64(int32(n))
}
