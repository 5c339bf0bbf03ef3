package types_test

import (
	"math"
	"math/big"
	"strconv"
	"testing"

	"warden/api"
	"warden/types"
)

// kinds are the kinds of fields that there are.
var kinds = []uint8{api.FieldKptr, api.FieldHead, api.FieldNode, api.FieldRoot, api.FieldRb, api.FieldRefs, api.FieldLock}

// ends are numbers at, and near, the ends of what an int has, and of what a byte has.
var ends = []int{math.MinInt, math.MinInt + 1, math.MinInt + 8, math.MinInt + 16, -256, -16, -8, -1, 0, 1, 7, 8, 16, 255, 256, math.MaxInt - 16, math.MaxInt - 8, math.MaxInt - 7, math.MaxInt - 1, math.MaxInt}

func typ(name string, size int, fields ...api.Field) api.Type {
	return api.Type{Name: name, Size: size, Fields: fields}
}

// fld answers a field; behind the place Of, and Node, may be told.
func fld(name string, kind uint8, at int, holds ...int) api.Field {
	f := api.Field{Name: name, Kind: kind, At: at}
	if len(holds) > 0 {
		f.Of = holds[0]
	}
	if len(holds) > 1 {
		f.Node = holds[1]
	}
	return f
}

// example is the chapter's table.
func example() []api.Type {
	return []api.Type{
		typ("a", 24, fld("n", api.FieldNode, 0)),
		typ("m", 32, fld("l", api.FieldLock, 0), fld("h", api.FieldHead, 8, 0, 0)),
	}
}

// whole is a table that may be, with each kind of field in it.
func whole() []api.Type {
	return []api.Type{
		typ("obj", 128,
			fld("n", api.FieldNode, 0),
			fld("r", api.FieldRb, 16),
			fld("c", api.FieldRefs, 32),
			fld("k", api.FieldKptr, 48, 1),
			fld("n2", api.FieldNode, 64),
			fld("r2", api.FieldRb, 112)),
		typ("leaf", 8),
		typ("val", 128,
			fld("h", api.FieldHead, 8, 0, 4),
			fld("l", api.FieldLock, 0),
			fld("t", api.FieldRoot, 112, 0, 5),
			fld("k", api.FieldKptr, 32, 0),
			fld("h2", api.FieldHead, 40, 0, 0),
			fld("t2", api.FieldRoot, 64, 0, 1)),
		typ("either", 16, fld("k", api.FieldKptr, 8, 3)),
		typ("lock", 8, fld("l", api.FieldLock, 0)),
	}
}

// copyOf answers a table of its own memory.
func copyOf(l []api.Type) []api.Type {
	m := append([]api.Type(nil), l...)
	for n := range m {
		m[n].Fields = append([]api.Field(nil), m[n].Fields...)
	}
	return m
}

func TestP103Size(t *testing.T) {
	sizes := map[uint8]int{1: 8, 2: 16, 3: 16, 4: 16, 5: 16, 6: 8, 7: 8}
	for kind := range 256 {
		if n := types.Size(uint8(kind)); n != sizes[uint8(kind)] {
			t.Errorf("Size(%d) = %d; want %d", kind, n, sizes[uint8(kind)])
		}
	}
	for _, kind := range kinds {
		if types.Size(kind) == 0 {
			t.Errorf("Size(%d) = 0", kind)
		}
	}
}

// place is what is asked of calls that answer a place.
func place(t *testing.T, what string, n int, is bool, want int, there bool) {
	t.Helper()
	if n != want || is != there {
		t.Errorf("%s: %d, %v; want %d, %v", what, n, is, want, there)
	}
}

func TestP103At(t *testing.T) {
	several := typ("x", 64,
		fld("a", api.FieldKptr, 8),
		fld("b", api.FieldNode, 16),
		fld("c", api.FieldKptr, 8),
		fld("d", api.FieldRb, 16),
		fld("e", 0, 5),
		fld("f", 200, -3),
		fld("g", api.FieldLock, math.MinInt),
		fld("h", api.FieldLock, math.MaxInt),
		fld("i", api.FieldLock, 0))
	for _, c := range []struct {
		at, want int
		is       bool
	}{
		{8, 0, true}, {16, 1, true}, {5, 4, true}, {-3, 5, true}, {math.MinInt, 6, true}, {math.MaxInt, 7, true}, {0, 8, true},
		{9, 0, false}, {7, 0, false}, {15, 0, false}, {17, 0, false}, {24, 0, false}, {64, 0, false}, {-1, 0, false}, {-8, 0, false},
		{math.MinInt + 1, 0, false}, {math.MaxInt - 1, 0, false},
	} {
		n, is := types.At(several, c.at)
		place(t, "At", n, is, c.want, c.is)
	}
	for _, at := range ends {
		n, is := types.At(typ("x", 64), at)
		place(t, "At, without fields", n, is, 0, false)
		n, is = types.At(api.Type{}, at)
		place(t, "At of nothing", n, is, 0, false)
	}
	n, is := types.At(whole()[2], 0)
	place(t, "At of a field that is not the first one", n, is, 1, true)
}

func TestP103Has(t *testing.T) {
	for kind := range 256 {
		k := uint8(kind)
		n, is := types.Has(typ("x", 64), k)
		place(t, "Has, without fields", n, is, 0, false)
		n, is = types.Has(typ("x", 64, fld("a", k+1, 0), fld("b", k-1, 8)), k)
		place(t, "Has, of others", n, is, 0, false)
		n, is = types.Has(typ("x", 64, fld("a", k, 0)), k)
		place(t, "Has, of one", n, is, 0, true)
		n, is = types.Has(typ("x", 64, fld("a", k+1, 0), fld("b", k, 8), fld("c", k, 16)), k)
		place(t, "Has, of several", n, is, 1, true)
		n, is = types.Has(typ("x", 64, fld("a", k+1, 0), fld("b", k-1, 0), fld("c", k, 0)), k)
		place(t, "Has, of the last one", n, is, 2, true)
	}
}

func TestP103Of(t *testing.T) {
	l := []api.Type{typ("a", 8), typ("b", 8, fld("c", api.FieldKptr, 0)), typ("a", 16), typ("", 8), typ("b", 24), typ("\xff", 8), typ("ab", 8), typ("", 8), typ("\u00e9", 8)}
	for _, c := range []struct {
		name string
		want int
		is   bool
	}{
		{"a", 0, true}, {"b", 1, true}, {"", 3, true}, {"\xff", 5, true}, {"ab", 6, true}, {"\u00e9", 8, true},
		{"c", 0, false}, {"A", 0, false}, {"a ", 0, false}, {"\xe9", 0, false}, {"e\u0301", 0, false}, {"ba", 0, false}, {"\xfe", 0, false},
	} {
		n, is := types.Of(l, c.name)
		place(t, "Of "+strconv.Quote(c.name), n, is, c.want, c.is)
		n, is = types.Of(nil, c.name)
		place(t, "Of no types", n, is, 0, false)
		n, is = types.Of([]api.Type{}, c.name)
		place(t, "Of an empty table", n, is, 0, false)
	}
	n, is := types.Of(l[:3], "")
	place(t, "Of no name, where none has none", n, is, 0, false)
}

func TestP103Object(t *testing.T) {
	if !types.Object(api.Type{}) || !types.Object(typ("x", 8)) {
		t.Error("a type without fields is an object type")
	}
	not := map[uint8]bool{api.FieldHead: true, api.FieldRoot: true, api.FieldLock: true}
	for kind := range 256 {
		k := uint8(kind)
		for _, c := range []api.Type{
			typ("x", 64, fld("a", k, 0)),
			typ("x", 64, fld("a", api.FieldNode, 0), fld("b", k, 16)),
			typ("x", 64, fld("a", k, 0), fld("b", api.FieldRefs, 16)),
			typ("", -1, fld("", api.FieldKptr, 3), fld("", k, -1), fld("", 0, 0)),
		} {
			if types.Object(c) == not[k] {
				t.Errorf("Object(%v) = %v", c, !not[k])
			}
		}
	}
	for n, is := range []bool{true, true, false, true, false} {
		if types.Object(whole()[n]) != is {
			t.Errorf("Object of type %d = %v", n, !is)
		}
	}
}

func TestP103Plain(t *testing.T) {
	one := typ("x", 64, fld("a", api.FieldNode, 16), fld("b", api.FieldLock, 48))
	for _, c := range []struct {
		at, size int
		is       bool
	}{
		{0, 1, true}, {0, 16, true}, {15, 1, true}, {8, 8, true}, {3, 5, true},
		{0, 17, false}, {15, 2, false}, {16, 1, false}, {31, 1, false}, {16, 16, false}, {20, 4, false}, {31, 2, false}, {15, 18, false}, {8, 40, false},
		{32, 1, true}, {32, 16, true}, {47, 1, true}, {32, 17, false}, {47, 2, false}, {48, 1, false}, {55, 1, false}, {48, 8, false}, {55, 2, false},
		{56, 1, true}, {56, 8, true}, {63, 1, true}, {56, 9, false}, {63, 2, false}, {64, 1, false}, {65, 1, false}, {0, 64, false}, {0, 65, false},
		{-1, 1, false}, {-1, 2, false}, {-8, 8, false}, {-8, 16, false},
		{0, 0, false}, {8, 0, false}, {64, 0, false}, {16, 0, false}, {0, -1, false}, {8, -8, false}, {64, -64, false}, {-8, -8, false}, {72, -8, false},
	} {
		if types.Plain(one, c.at, c.size) != c.is {
			t.Errorf("Plain(x, %d, %d) = %v", c.at, c.size, !c.is)
		}
	}
	if !types.Plain(typ("x", 64), 0, 64) || types.Plain(typ("x", 64), 0, 65) || types.Plain(typ("x", 64), 1, 64) || types.Plain(api.Type{}, 0, 1) || types.Plain(api.Type{}, 0, 0) {
		t.Error("a type without fields is plain as a whole, and no further")
	}
}

// A field of no kind has no bytes, wherever it begins.
func TestP103PlainOfNoKind(t *testing.T) {
	for _, kind := range []uint8{0, 8, 9, 255} {
		for at := -2; at < 12; at++ {
			x := typ("x", 8, fld("a", kind, at))
			if !types.Plain(x, 0, 8) || !types.Plain(x, 3, 2) {
				t.Errorf("a field of kind %d at %d: not plain", kind, at)
			}
		}
	}
}

// lies answers, in numbers without an end, whether all bytes are in the type and in no field of it.
func lies(x api.Type, at, size int) bool {
	b := func(n int) *big.Int { return big.NewInt(int64(n)) }
	behind := func(at, size int) *big.Int { return new(big.Int).Add(b(at), b(size)) }
	if size < 1 || at < 0 || behind(at, size).Cmp(b(x.Size)) > 0 {
		return false
	}
	for _, f := range x.Fields {
		n := map[uint8]int{1: 8, 2: 16, 3: 16, 4: 16, 5: 16, 6: 8, 7: 8}[f.Kind]
		apart := behind(at, size).Cmp(b(f.At)) <= 0 || behind(f.At, n).Cmp(b(at)) <= 0
		if n > 0 && !apart {
			return false
		}
	}
	return true
}

func TestP103PlainOfAnyNumbers(t *testing.T) {
	near := []int{math.MinInt, math.MinInt + 1, math.MinInt + 8, math.MinInt + 16, -17, -16, -15, -9, -8, -7, -1, 0, 1, 7, 8, 9, 15, 16, 17, 24, math.MaxInt - 17, math.MaxInt - 16, math.MaxInt - 15, math.MaxInt - 9, math.MaxInt - 8, math.MaxInt - 7, math.MaxInt - 1, math.MaxInt}
	seen := map[bool]int{}
	for _, long := range near {
		for _, begin := range near {
			for _, kind := range []uint8{0, api.FieldLock, api.FieldRb} {
				x := typ("x", long, fld("a", kind, begin))
				for _, at := range near {
					for _, size := range near {
						want := lies(x, at, size)
						seen[want]++
						if types.Plain(x, at, size) != want {
							t.Fatalf("Plain(%v, %d, %d) = %v", x, at, size, !want)
						}
					}
				}
			}
		}
	}
	if seen[true] == 0 || seen[false] == 0 {
		t.Errorf("seen: %v", seen)
	}
}

func TestP103PlainByteByByte(t *testing.T) {
	for _, x := range append(whole(), typ("over", 40, fld("a", api.FieldNode, 8), fld("b", api.FieldLock, 12), fld("c", api.FieldKptr, -4), fld("d", api.FieldHead, 36), fld("e", 77, 30))) {
		for at := -20; at < x.Size+20; at++ {
			for size := -3; size < x.Size+20; size++ {
				if want := lies(x, at, size); types.Plain(x, at, size) != want {
					t.Fatalf("Plain(%v, %d, %d) = %v", x, at, size, !want)
				}
			}
		}
	}
}

// No call of a type or a table changes what it is given.
func TestR5ArgumentsStay(t *testing.T) {
	for _, l := range [][]api.Type{example(), whole()} {
		kept := copyOf(l)
		types.Encode(l)
		types.Check(l)
		types.Same(l, l)
		types.Of(l, "val")
		for _, x := range l {
			types.At(x, 8)
			types.Plain(x, 0, 8)
			types.Object(x)
			types.Has(x, api.FieldNode)
		}
		for n := range kept {
			if l[n].Name != kept[n].Name || l[n].Size != kept[n].Size || len(l[n].Fields) != len(kept[n].Fields) {
				t.Fatalf("type %d was changed", n)
			}
			for m := range kept[n].Fields {
				if l[n].Fields[m] != kept[n].Fields[m] {
					t.Fatalf("field %d of type %d was changed", m, n)
				}
			}
		}
	}
}
