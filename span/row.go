package span

// number is of either kind: without a sign, or with one.
type number interface {
	uint64 | int64
}

// row is what spans and reaches have in common. Its fields are named as theirs, so that either is turned into one as it is.
type row[N number] struct {
	Low  N
	High N
}

type (
	unsigned = row[uint64]
	signed   = row[int64]
)

// nothing is made alike wherever no number is left, so that answers may be compared as they are.
func nothing[N number]() row[N] {
	return row[N]{Low: 1}
}

func empty[N number](a row[N]) bool {
	return a.High < a.Low
}

func has[N number](a row[N], x N) bool {
	return a.Low <= x && x <= a.High
}

func shared[N number](a, b row[N]) row[N] {
	both := row[N]{Low: max(a.Low, b.Low), High: min(a.High, b.High)}
	if empty(both) {
		return nothing[N]()
	}
	return both
}

// around asks first whether neither has a number: there is no other one to hand on then, whichever is looked at first.
func around[N number](a, b row[N]) row[N] {
	switch {
	case empty(a) && empty(b):
		return nothing[N]()
	case empty(a):
		return b
	case empty(b):
		return a
	}
	return row[N]{Low: min(a.Low, b.Low), High: max(a.High, b.High)}
}

// straight is for what grows with either number: it is least of both Lows, and greatest of both Highs.
func straight[N number](a, b, whole row[N], does func(x, y N) (N, bool)) row[N] {
	if empty(a) || empty(b) {
		return nothing[N]()
	}
	return ends(a, b, whole, does)
}

// crossed is for what grows with a's number, and shrinks with b's: its ends come of ends that are not alike.
func crossed[N number](a, b, whole row[N], does func(x, y N) (N, bool)) row[N] {
	if empty(a) || empty(b) {
		return nothing[N]()
	}
	return ends(a, row[N]{Low: b.High, High: b.Low}, whole, does)
}

// ends asks what comes at each end, and whether that is a number of the kind at all: where it is not, numbers between go round, and any may come.
func ends[N number](a, b, whole row[N], does func(x, y N) (N, bool)) row[N] {
	low, lowIs := does(a.Low, b.Low)
	high, highIs := does(a.High, b.High)
	if !lowIs || !highIs {
		return whole
	}
	return row[N]{Low: low, High: high}
}

// taken asks what both ends are as numbers of the other kind. The two kinds have one order on either side of the middle, but the sides change places: ends that come out turned lay on both.
func taken[N, M number](a row[N], whole row[M], as func(x N) M) row[M] {
	if empty(a) {
		return nothing[M]()
	}
	other := row[M]{Low: as(a.Low), High: as(a.High)}
	if empty(other) {
		return whole
	}
	return other
}
