package types_test

// The chapter's words on Check, written out again: all that is wrong is gathered, and the one that is named first is taken. Held against the package over tables that are drawn, most of which have few faults.

import (
	"slices"
	"strconv"
	"testing"

	"warden/api"
	"warden/name"
	"warden/types"
)

// told is what is wrong, with where its word stands: first which round, which type, which part of it, which field, which word.
type told struct {
	order     [5]int
	at, field int
	e         api.Errno
}

// wordsCheck gathers all, and takes what stands first.
func wordsCheck(l []api.Type) (at, field int, e api.Errno) {
	var all []told
	for n := range l {
		all = append(all, wordsType(l, n)...)
	}
	for n, x := range l {
		for m, f := range x.Fields {
			if wordsOf(l, f) {
				all = append(all, told{[5]int{1, n, 0, m}, n, m, api.ErrOf})
			}
		}
	}
	if len(all) == 0 {
		return 0, 0, api.OK
	}
	least := slices.MinFunc(all, func(a, b told) int { return slices.Compare(a.order[:], b.order[:]) })
	return least.at, least.field, least.e
}

func wordsType(l []api.Type, n int) []told {
	var all []told
	x := l[n]
	head := func(word int, wrong bool, field int, e api.Errno) {
		if wrong {
			all = append(all, told{[5]int{0, n, 0, 0, word}, n, field, e})
		}
	}
	head(0, n == 32, 0, api.ErrLong)
	head(1, !name.May(x.Name), 0, api.ErrName)
	head(2, slices.ContainsFunc(l[:n], func(y api.Type) bool { return y.Name == x.Name }), 0, api.ErrTwice)
	head(3, !slices.Contains([]int{8, 16, 24, 32, 40, 48, 56, 64, 72, 80, 88, 96, 104, 112, 120, 128}, x.Size), 0, api.ErrSize)
	head(4, len(x.Fields) > 8, 8, api.ErrLong)
	has := map[uint8]int{}
	for m, f := range x.Fields {
		each := func(word int, wrong bool, e api.Errno) {
			if wrong {
				all = append(all, told{[5]int{0, n, 1, m, word}, n, m, e})
			}
		}
		ahead := x.Fields[:m]
		each(0, !name.May(f.Name), api.ErrName)
		each(1, slices.ContainsFunc(ahead, func(g api.Field) bool { return g.Name == f.Name }), api.ErrTwice)
		each(2, f.Kind < 1 || f.Kind > 7, api.ErrKind)
		each(3, wordsPlace(x, ahead, f), api.ErrPlace)
		each(4, (f.Kind == api.FieldLock || f.Kind == api.FieldRefs) && has[f.Kind] > 0, api.ErrTwice)
		has[f.Kind]++
	}
	rows := has[api.FieldHead] + has[api.FieldRoot]
	ofValue := rows + has[api.FieldLock]
	ofObject := has[api.FieldNode] + has[api.FieldRb] + has[api.FieldRefs]
	if ofValue > 0 && ofObject > 0 || rows > 0 && has[api.FieldLock] == 0 {
		all = append(all, told{[5]int{0, n, 2}, n, 0, api.ErrMixed})
	}
	return all
}

// bytesOf answers the places of the field's bytes.
func bytesOf(f api.Field) []int {
	var l []int
	n := 0
	switch f.Kind {
	case 1, 6, 7:
		n = 8
	case 2, 3, 4, 5:
		n = 16
	}
	for i := range n {
		l = append(l, f.At+i)
	}
	return l
}

// wordsPlace looks at the field's bytes one by one.
func wordsPlace(x api.Type, ahead []api.Field, f api.Field) bool {
	if f.At < 0 || f.At%8 != 0 {
		return true
	}
	for _, b := range bytesOf(f) {
		if b >= x.Size {
			return true
		}
		for _, g := range ahead {
			if slices.Contains(bytesOf(g), b) {
				return true
			}
		}
	}
	return false
}

func wordsOf(l []api.Type, f api.Field) bool {
	by := uint8(0)
	switch f.Kind {
	case api.FieldKptr:
	case api.FieldHead:
		by = api.FieldNode
	case api.FieldRoot:
		by = api.FieldRb
	default:
		return f.Of != 0 || f.Node != 0
	}
	if f.Of < 0 || f.Of >= len(l) {
		return true
	}
	holds := l[f.Of].Fields
	for _, g := range holds {
		if g.Kind == api.FieldHead || g.Kind == api.FieldRoot || g.Kind == api.FieldLock {
			return true
		}
	}
	if by == 0 {
		return f.Node != 0
	}
	return f.Node < 0 || f.Node >= len(holds) || holds[f.Node].Kind != by
}

// dice draws numbers that are the same each time.
type dice uint64

func (d *dice) below(n int) int {
	*d = *d*6364136223846793005 + 1442695040888963407
	return int(uint64(*d) >> 33 % uint64(n))
}

func (d *dice) one(l ...int) int {
	return l[d.below(len(l))]
}

// likely draws a table most of whose types and fields may be, so that all errors come up, and none as well.
func (d *dice) likely() []api.Type {
	l := make([]api.Type, d.below(6))
	for n := range l {
		l[n] = typ("t"+strconv.Itoa(n), 8*(4+d.below(13)))
		kinds := []int{1, 3, 5, 6}
		if d.below(2) == 0 {
			kinds = []int{1, 7, 2, 4}
			l[n].Fields = []api.Field{fld("lock", api.FieldLock, 0)}
		}
		at := 8 * len(l[n].Fields)
		for m := range d.below(6) {
			kind := uint8(d.one(kinds...))
			if at+16 > l[n].Size || kind == 7 || kind == 6 && m > 0 {
				break
			}
			l[n].Fields = append(l[n].Fields, fld("f"+strconv.Itoa(m), kind, at))
			at += types.Size(kind) + 8*d.below(2)
		}
	}
	d.hold(l)
	for d.below(3) == 0 && len(l) > 0 {
		l = d.spoil(l)
	}
	return l
}

// hold draws what the fields hold, of those that they may hold mostly.
func (d *dice) hold(l []api.Type) {
	for n := range l {
		for m := range l[n].Fields {
			f := &l[n].Fields[m]
			by := map[uint8]uint8{api.FieldHead: api.FieldNode, api.FieldRoot: api.FieldRb}[f.Kind]
			if by == 0 && f.Kind != api.FieldKptr {
				continue
			}
			for range 20 {
				f.Of = d.below(len(l))
				if x := l[f.Of]; by != 0 && len(x.Fields) > 0 {
					f.Node = d.below(len(x.Fields))
				}
				if !wordsOf(l, *f) {
					break
				}
			}
		}
	}
}

// spoil changes one thing.
func (d *dice) spoil(l []api.Type) []api.Type {
	n := d.below(len(l))
	x := &l[n]
	if d.below(4) == 0 {
		switch d.below(5) {
		case 0:
			x.Name = ""
		case 1:
			x.Name = l[0].Name
		case 2:
			x.Size = d.one(0, 4, 8, 12, 16, 64, 128, 136, -8)
		case 3:
			x.Fields = append(x.Fields, crowd(8)...)
		case 4:
			l = append(l, many(33)...)
		}
		return l
	}
	if len(x.Fields) == 0 {
		x.Fields = crowd(1 + d.below(3))
	}
	f := &x.Fields[d.below(len(x.Fields))]
	switch d.below(6) {
	case 0:
		f.Name = "9"
	case 1:
		f.Name = x.Fields[0].Name
	case 2:
		f.Kind = uint8(d.below(10))
	case 3:
		f.At = d.one(-8, 0, 4, 8, 16, 24, 32, 64, 112, 120, 128)
	case 4:
		f.Of = d.one(-1, 0, 1, 2, 3, len(l)-1, len(l), len(l)+1)
	case 5:
		f.Node = d.one(-1, 0, 1, 2, 3, 7, 8)
	}
	return l
}

func TestP102AsWords(t *testing.T) {
	seen := map[api.Errno]int{}
	d := dice(1)
	for range 20_000 {
		l := d.likely()
		at, field, e := types.Check(l)
		seen[e]++
		if a, f, want := wordsCheck(l); at != a || field != f || e != want {
			t.Fatalf("Check(%v) = %d, %d, %v; want %d, %d, %v", l, at, field, e, a, f, want)
		}
		if e == api.OK {
			stands(t, l)
		}
	}
	for _, e := range []api.Errno{api.OK, api.ErrLong, api.ErrName, api.ErrSize, api.ErrKind, api.ErrPlace, api.ErrTwice, api.ErrOf, api.ErrMixed} {
		if seen[e] < 100 {
			t.Errorf("%v was seen %d times", e, seen[e])
		}
	}
}

// One field of each kind, with each place, Of and Node that is near the edges.
func TestP102AllSmallTables(t *testing.T) {
	for _, other := range []api.Type{typ("o", 64, fld("n", api.FieldNode, 0), fld("r", api.FieldRb, 16)), typ("o", 64, fld("l", api.FieldLock, 0)), typ("o", 64)} {
		for kind := range uint8(9) {
			for _, size := range []int{0, 8, 16, 24, 30} {
				for _, at := range []int{-8, 0, 4, 8, 16, 24} {
					for of := -1; of < 4; of++ {
						for node := -1; node < 4; node++ {
							for _, ahead := range []uint8{1, 6, 7} {
								l := []api.Type{other, typ("x", size, fld("a", ahead, 0), fld("b", kind, at, of, node))}
								at, field, e := types.Check(l)
								if a, f, want := wordsCheck(l); at != a || field != f || e != want {
									t.Fatalf("Check(%v) = %d, %d, %v; want %d, %d, %v", l, at, field, e, a, f, want)
								}
							}
						}
					}
				}
			}
		}
	}
}
