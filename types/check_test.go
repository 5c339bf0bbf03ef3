package types_test

import (
	"math"
	"slices"
	"strconv"
	"strings"
	"testing"

	"warden/api"
	"warden/types"
)

func checked(t *testing.T, what string, l []api.Type, at, field int, e api.Errno) {
	t.Helper()
	if a, f, got := types.Check(l); a != at || f != field || got != e {
		t.Errorf("%s: Check = %d, %d, %v; want %d, %d, %v", what, a, f, got, at, field, e)
	}
}

func TestP102Examples(t *testing.T) {
	checked(t, "the chapter's table", example(), 0, 0, api.OK)
	l := example()
	l[1].Fields = l[1].Fields[1:]
	checked(t, "without l", l, 1, 0, api.ErrMixed)
	l = example()
	l[0].Fields[0].At = 4
	checked(t, "a field at 4", l, 0, 0, api.ErrPlace)
	checked(t, "whole", whole(), 0, 0, api.OK)
	checked(t, "no types", nil, 0, 0, api.OK)
	checked(t, "no types, either", []api.Type{}, 0, 0, api.OK)
	checked(t, "no fields", []api.Type{{Name: "a", Size: 8, Fields: []api.Field{}}}, 0, 0, api.OK)
}

// many answers n types that may be.
func many(n int) []api.Type {
	var l []api.Type
	for i := range n {
		l = append(l, typ("t"+strconv.Itoa(i), 8))
	}
	return l
}

// crowd answers n fields that may be, as long as the type has room.
func crowd(n int) []api.Field {
	var l []api.Field
	for i := range n {
		l = append(l, fld("f"+strconv.Itoa(i), api.FieldKptr, 8*i))
	}
	return l
}

func TestP102TooManyTypes(t *testing.T) {
	if api.MaxTypes != 32 {
		t.Fatal(api.MaxTypes)
	}
	for _, n := range []int{1, 31, 32} {
		checked(t, "types", many(n), 0, 0, api.OK)
	}
	for _, n := range []int{33, 34, 64, 300, 100_000} {
		checked(t, "too many types", many(n), 32, 0, api.ErrLong)
	}
	l := many(33)
	l[32] = api.Type{}
	checked(t, "too many, the last of which is wrong itself", l, 32, 0, api.ErrLong)
	l[31].Name = ""
	checked(t, "a wrong one is ahead of it", l, 31, 0, api.ErrName)
	l = many(33)
	l[31].Fields = []api.Field{fld("l", api.FieldLock, 0)}
	l[31].Fields[0].Of = 1
	checked(t, "what a field holds is asked behind all types", l, 32, 0, api.ErrLong)
	l = many(32)
	l[0].Fields = []api.Field{fld("k", api.FieldKptr, 0, 31)}
	checked(t, "the last place", l, 0, 0, api.OK)
	l[0].Fields[0].Of = 32
	checked(t, "behind the last place", l, 0, 0, api.ErrOf)
}

func TestP102Names(t *testing.T) {
	for s, is := range map[string]bool{
		"a": true, "_": true, "\u00e9": true, "a1": true, strings.Repeat("a", 32): true, strings.Repeat("\U0001d4b3", 32): true, "\ufffd": true,
		"": false, "1": false, "1a": false, " ": false, "a b": false, "a-": false, "\xff": false, "a\xff": false, "\u00d7": false, strings.Repeat("a", 33): false, "\x00": false,
	} {
		at, field, e := 0, 0, api.OK
		if !is {
			at, e = 1, api.ErrName
		}
		l := many(3)
		l[1].Name = s
		checked(t, "a type's name", l, at, 0, e)
		if !is {
			field = 2
		}
		l = []api.Type{typ("x", 8), typ("y", 64, crowd(4)...)}
		l[1].Fields[2].Name = s
		checked(t, "a field's name", l, at, field, e)
	}
}

func TestP102NamesTwice(t *testing.T) {
	l := many(5)
	l[3].Name = l[1].Name
	checked(t, "two types of one name", l, 3, 0, api.ErrTwice)
	l[2].Name = l[1].Name
	checked(t, "three", l, 2, 0, api.ErrTwice)
	l = many(3)
	l[0].Name, l[1].Name, l[2].Name = "a", "A", "a_"
	checked(t, "names that are near", l, 0, 0, api.OK)
	l = []api.Type{typ("x", 64, crowd(5)...)}
	l[0].Fields[4].Name = l[0].Fields[0].Name
	checked(t, "two fields of one name", l, 0, 4, api.ErrTwice)
	l[0].Fields[3].Name = l[0].Fields[1].Name
	checked(t, "and two more ahead of them", l, 0, 3, api.ErrTwice)
	l = []api.Type{typ("f0", 16, crowd(2)...), typ("f1", 16, crowd(2)...)}
	checked(t, "names of fields that types, and fields of others, have", l, 0, 0, api.OK)
}

func TestP102Sizes(t *testing.T) {
	for size := -200; size <= 400; size++ {
		l := many(2)
		l[1].Size = size
		if size > 0 && size <= 128 && size%8 == 0 {
			checked(t, "size "+strconv.Itoa(size), l, 0, 0, api.OK)
		} else {
			checked(t, "size "+strconv.Itoa(size), l, 1, 0, api.ErrSize)
		}
	}
	for _, size := range ends {
		if size != 8 && size != 16 {
			checked(t, "size", []api.Type{typ("x", size)}, 0, 0, api.ErrSize)
		}
	}
}

func TestP102TooManyFields(t *testing.T) {
	for n := range 20 {
		l := []api.Type{typ("x", 8), typ("y", 128, crowd(n)...)}
		if n <= 8 {
			checked(t, "fields", l, 0, 0, api.OK)
			continue
		}
		checked(t, "too many fields", l, 1, 8, api.ErrLong)
		l[1].Fields[0] = api.Field{}
		checked(t, "it is ahead of what is wrong with a field", l, 1, 8, api.ErrLong)
		l[1].Size = 9
		checked(t, "and behind the size", l, 1, 0, api.ErrSize)
	}
}

func TestP102Kinds(t *testing.T) {
	for kind := range 256 {
		l := []api.Type{typ("x", 64), typ("y", 64, fld("a", api.FieldLock, 0), fld("b", uint8(kind), 16))}
		_, field, e := types.Check(l)
		if is := kind >= 1 && kind <= 7; is == (e == api.ErrKind) || !is && field != 1 {
			t.Errorf("kind %d: %d, %v", kind, field, e)
		}
	}
}

func TestP102Places(t *testing.T) {
	for _, kind := range kinds {
		long := types.Size(kind)
		for size := 8; size <= 128; size += 8 {
			for _, at := range append([]int{size - long - 8, size - long - 1, size - long, size - long + 1, size - long + 8, size - 8, size, size + 8, 4, 12, 24, 20, -24}, ends...) {
				l := []api.Type{typ("x", 8), typ("y", size, fld("f", kind, at))}
				_, field, e := types.Check(l)
				is := at >= 0 && at%8 == 0 && at <= size-long
				if is == (e == api.ErrPlace) || field != 0 {
					t.Errorf("kind %d at %d of %d: %d, %v", kind, at, size, field, e)
				}
			}
		}
	}
}

// Two fields, wherever both may be: they lie over each other, or touch, or are apart.
func TestP102PlacesOfTwo(t *testing.T) {
	for _, first := range kinds {
		for _, second := range kinds {
			for a := 0; a <= 48; a += 8 {
				for b := 0; b <= 48; b += 8 {
					l := []api.Type{typ("x", 64, fld("f", first, a), fld("g", second, b))}
					apart := a+types.Size(first) <= b || b+types.Size(second) <= a
					_, field, e := types.Check(l)
					if apart == (e == api.ErrPlace) || !apart && field != 1 {
						t.Errorf("kind %d at %d, kind %d at %d: %d, %v", first, a, second, b, field, e)
					}
				}
			}
		}
	}
	l := []api.Type{typ("x", 64, fld("a", api.FieldNode, 0), fld("b", api.FieldNode, 32), fld("c", api.FieldRefs, 16), fld("d", api.FieldRb, 24))}
	checked(t, "over one that is not the last one ahead", l, 0, 3, api.ErrPlace)
	l[0].Fields[3].At = 48
	checked(t, "apart from all", l, 0, 0, api.OK)
}

func TestP102LocksAndRefsTwice(t *testing.T) {
	for _, kind := range kinds {
		l := []api.Type{typ("y", 64, fld("a", kind, 0), fld("b", api.FieldKptr, 16), fld("c", kind, 32))}
		switch kind {
		case api.FieldLock, api.FieldRefs:
			checked(t, "two of one kind", l, 0, 2, api.ErrTwice)
			l[0].Fields[2].Of = 9
			checked(t, "ahead of what it holds", l, 0, 2, api.ErrTwice)
			l[0].Fields[2].At = 4
			checked(t, "behind the place", l, 0, 2, api.ErrPlace)
		default:
			if _, _, e := types.Check(l); e == api.ErrTwice {
				t.Errorf("two fields of kind %d: %v", kind, e)
			}
		}
	}
	checked(t, "a lock and a count are not two of one kind", []api.Type{typ("y", 64, fld("a", api.FieldLock, 0), fld("b", api.FieldRefs, 8))}, 0, 0, api.ErrMixed)
	checked(t, "a lock in each of two types", []api.Type{typ("x", 8, fld("a", api.FieldLock, 0)), typ("y", 8, fld("a", api.FieldLock, 0))}, 0, 0, api.OK)
	checked(t, "a count in each of two types", []api.Type{typ("x", 8, fld("a", api.FieldRefs, 0)), typ("y", 8, fld("a", api.FieldRefs, 0))}, 0, 0, api.OK)
}

// Each set of kinds in one type, in either order: which may stand together.
func TestP102Mixed(t *testing.T) {
	holder := typ("o", 64, fld("n", api.FieldNode, 0), fld("r", api.FieldRb, 16))
	seen := map[api.Errno]int{}
	for set := range 1 << len(kinds) {
		has := map[uint8]bool{}
		var fields []api.Field
		for n, kind := range kinds {
			if set>>n&1 == 0 {
				continue
			}
			has[kind] = true
			f := fld("f"+strconv.Itoa(n), kind, 16*n)
			if kind == api.FieldRoot {
				f.Node = 1
			}
			fields = append(fields, f)
		}
		object := !has[api.FieldHead] && !has[api.FieldRoot] && !has[api.FieldLock]
		value := !has[api.FieldNode] && !has[api.FieldRb] && !has[api.FieldRefs]
		bare := (has[api.FieldHead] || has[api.FieldRoot]) && !has[api.FieldLock]
		at, want := 0, api.OK
		if !object && !value || bare {
			at, want = 1, api.ErrMixed
		}
		seen[want]++
		checked(t, "mixed", []api.Type{holder, typ("x", 128, fields...), typ("z", 8)}, at, 0, want)
		slices.Reverse(fields)
		checked(t, "mixed, the other way round", []api.Type{holder, typ("x", 128, fields...), typ("z", 8)}, at, 0, want)
	}
	if seen[api.OK] == 0 || seen[api.ErrMixed] == 0 {
		t.Error(seen)
	}
}

func TestP102Of(t *testing.T) {
	for _, c := range []struct {
		what      string
		at, field int
		of, node  int
		is        bool
	}{
		{"a kptr of another", 0, 3, 1, 0, true},
		{"a kptr of its own type", 0, 3, 0, 0, true},
		{"a kptr of the last object type", 0, 3, 3, 0, true},
		{"a kptr of a value type", 0, 3, 2, 0, false},
		{"a kptr of a type with a lock alone", 0, 3, 4, 0, false},
		{"a kptr behind the end", 0, 3, 5, 0, false},
		{"a kptr below 0", 0, 3, -1, 0, false},
		{"a kptr by a node", 0, 3, 1, 1, false},
		{"a kptr by a node that there is", 0, 3, 0, 4, false},
		{"a kptr by a node below 0", 0, 3, 1, -1, false},
		{"a kptr of a value", 2, 3, 0, 0, true},
		{"a kptr of a value of its own type", 2, 3, 2, 0, false},

		{"a head by the first node", 2, 0, 0, 0, true},
		{"a head by the other node", 2, 0, 0, 4, true},
		{"a head by an rbnode", 2, 0, 0, 1, false},
		{"a head by the last field, an rbnode", 2, 0, 0, 5, false},
		{"a head by a count", 2, 0, 0, 2, false},
		{"a head by a kptr", 2, 0, 0, 3, false},
		{"a head by a field behind the end", 2, 0, 0, 6, false},
		{"a head by a field below 0", 2, 0, 0, -1, false},
		{"a head of a type without fields", 2, 0, 1, 0, false},
		{"a head of a type with another field", 2, 0, 3, 0, false},
		{"a head of its own type", 2, 0, 2, 0, false},
		{"a head of a value type", 2, 0, 4, 0, false},
		{"a head of a type behind the end", 2, 0, 5, 0, false},
		{"a head of a type below 0", 2, 0, -1, 0, false},

		{"a root by the first rbnode", 2, 2, 0, 1, true},
		{"a root by the last field", 2, 2, 0, 5, true},
		{"a root by a node", 2, 2, 0, 0, false},
		{"a root by a node, too", 2, 2, 0, 4, false},
		{"a root by a count", 2, 2, 0, 2, false},
		{"a root by a kptr", 2, 2, 0, 3, false},
		{"a root by a field behind the end", 2, 2, 0, 6, false},
		{"a root by a field below 0", 2, 2, 0, -1, false},
		{"a root of a type without fields", 2, 2, 1, 0, false},
		{"a root of its own type", 2, 2, 2, 2, false},
		{"a root of a type behind the end", 2, 2, 5, 1, false},
		{"a root of a type below 0", 2, 2, -1, 1, false},

		{"a node", 0, 0, 0, 0, true},
		{"a node of another", 0, 0, 1, 0, false},
		{"a node by another", 0, 0, 0, 4, false},
		{"a node below 0", 0, 0, -1, 0, false},
		{"a node by one below 0", 0, 0, 0, -1, false},
		{"an rbnode of another", 0, 1, 1, 0, false},
		{"an rbnode by another", 0, 1, 0, 5, false},
		{"a count of another", 0, 2, 1, 0, false},
		{"a count by another", 0, 2, 0, 1, false},
		{"a lock of another", 2, 1, 1, 0, false},
		{"a lock by another", 2, 1, 0, 1, false},
		{"a lock", 2, 1, 0, 0, true},
	} {
		l := whole()
		l[c.at].Fields[c.field].Of, l[c.at].Fields[c.field].Node = c.of, c.node
		if c.is {
			checked(t, c.what, l, 0, 0, api.OK)
		} else {
			checked(t, c.what, l, c.at, c.field, api.ErrOf)
		}
	}
	for _, far := range []int{math.MinInt, math.MinInt + 1, math.MaxInt - 1, math.MaxInt} {
		for at, x := range whole() {
			for field := range x.Fields {
				l := whole()
				l[at].Fields[field].Of = far
				checked(t, "Of far away", l, at, field, api.ErrOf)
				l = whole()
				l[at].Fields[field].Node = far
				checked(t, "Node far away", l, at, field, api.ErrOf)
			}
		}
	}
}

// A field may hold objects of a type behind its own.
func TestP102OfBehind(t *testing.T) {
	l := []api.Type{
		typ("v", 64, fld("l", api.FieldLock, 0), fld("h", api.FieldHead, 8, 1, 1), fld("t", api.FieldRoot, 24, 1, 0)),
		typ("o", 64, fld("r", api.FieldRb, 0), fld("n", api.FieldNode, 16)),
	}
	checked(t, "of a type behind", l, 0, 0, api.OK)
	l[1].Fields = append(l[1].Fields, fld("l", api.FieldLock, 40))
	checked(t, "that is mixed", l, 1, 0, api.ErrMixed)
}

// fault is one thing that is wrong with the table that ordered holds, as it is told; they stand in the order in which they are told.
type fault struct {
	what      string
	make      func(l []api.Type) []api.Type
	at, field int
	e         api.Errno
}

// faults stand in the order in which the promise names them, of a type ahead of those of the next one, and of a field likewise. Each is made of a table that may be, and leaves the others as they are.
func faults() []fault {
	field := func(at, field int, change func(f *api.Field)) func(l []api.Type) []api.Type {
		return func(l []api.Type) []api.Type {
			change(&l[at].Fields[field])
			return l
		}
	}
	return []fault{
		{"type 0: name", func(l []api.Type) []api.Type { l[0].Name = "1"; return l }, 0, 0, api.ErrName},
		{"type 0, field 0: name", field(0, 0, func(f *api.Field) { f.Name = "" }), 0, 0, api.ErrName},
		{"type 0, field 0: kind", field(0, 0, func(f *api.Field) { f.Kind = 8 }), 0, 0, api.ErrKind},
		{"type 0, field 0: place", field(0, 0, func(f *api.Field) { f.At = 4 }), 0, 0, api.ErrPlace},
		{"type 0, field 1: name", field(0, 1, func(f *api.Field) { f.Name = "-" }), 0, 1, api.ErrName},
		{"type 0, field 1: kind", field(0, 1, func(f *api.Field) { f.Kind = 0 }), 0, 1, api.ErrKind},
		{"type 0, field 1: place", field(0, 1, func(f *api.Field) { f.At = 128 }), 0, 1, api.ErrPlace},
		{"type 0, field 5: name twice", field(0, 5, func(f *api.Field) { f.Name = "n2" }), 0, 5, api.ErrTwice},
		{"type 0: mixed", func(l []api.Type) []api.Type {
			l[0].Fields = append(l[0].Fields, fld("q", api.FieldLock, 40))
			return l
		}, 0, 0, api.ErrMixed},
		{"type 2: name twice", func(l []api.Type) []api.Type { l[2].Name = l[1].Name; return l }, 2, 0, api.ErrTwice},
		{"type 2: size", func(l []api.Type) []api.Type { l[2].Size = 129; return l }, 2, 0, api.ErrSize},
		{"type 2: many fields", func(l []api.Type) []api.Type {
			l[2].Fields = append(l[2].Fields, fld("x", api.FieldKptr, 88), fld("y", api.FieldKptr, 96), fld("z", api.FieldKptr, 104))
			return l
		}, 2, 8, api.ErrLong},
		{"type 2, field 3: name twice", field(2, 3, func(f *api.Field) { f.Name = "h" }), 2, 3, api.ErrTwice},
		{"type 2, field 3: place", field(2, 3, func(f *api.Field) { f.At = 16 }), 2, 3, api.ErrPlace},
		{"type 3: size", func(l []api.Type) []api.Type { l[3].Size = 0; return l }, 3, 0, api.ErrSize},
		{"type 3, field 0: kind", field(3, 0, func(f *api.Field) { f.Kind = 255 }), 3, 0, api.ErrKind},
		{"type 4: name twice", func(l []api.Type) []api.Type { l[4].Name = "leaf"; return l }, 4, 0, api.ErrTwice},
		{"type 4: two locks", func(l []api.Type) []api.Type {
			l[4].Size = 16
			l[4].Fields = append(l[4].Fields, fld("l2", api.FieldLock, 8))
			return l
		}, 4, 1, api.ErrTwice},
		{"type 5: head without a lock", func(l []api.Type) []api.Type {
			return append(l[:5:5], append([]api.Type{typ("bare", 16, fld("h", api.FieldHead, 0))}, l[5:]...)...)
		}, 5, 0, api.ErrMixed},
		{"type 32: too many", func(l []api.Type) []api.Type { return append(l, many(33-len(l))...) }, 32, 0, api.ErrLong},
		{"type 0, field 3: of", field(0, 3, func(f *api.Field) { f.Of = -1 }), 0, 3, api.ErrOf},
		{"type 2, field 0: node", field(2, 0, func(f *api.Field) { f.Node = 3 }), 2, 0, api.ErrOf},
		{"type 2, field 1: of", field(2, 1, func(f *api.Field) { f.Of = 1 }), 2, 1, api.ErrOf},
		{"type 3, field 0: node", field(3, 0, func(f *api.Field) { f.Node = 1 }), 3, 0, api.ErrOf},
	}
}

// Of each pair of faults the one that the promise names first is told.
func TestP102FirstOfTwo(t *testing.T) {
	l := faults()
	for n, a := range l {
		checked(t, a.what, a.make(whole()), a.at, a.field, a.e)
		for _, b := range l[n+1:] {
			checked(t, a.what+" and "+b.what, b.make(a.make(whole())), a.at, a.field, a.e)
		}
	}
	all := whole()
	for n := range l {
		all = l[len(l)-1-n].make(all)
		checked(t, "all from here on: "+l[len(l)-1-n].what, all, l[len(l)-1-n].at, l[len(l)-1-n].field, l[len(l)-1-n].e)
	}
}

// One type, and one field, with all that is wrong with it: each that is mended tells the next one.
func TestP102OrderWithin(t *testing.T) {
	l := []api.Type{typ("b", 8), typ("b", 8)}
	l = append(l, many(30)...)
	l = append(l, typ("1", 9, make([]api.Field, 9)...))
	checked(t, "a second type of one name is ahead", l, 1, 0, api.ErrTwice)
	l[1].Name = "c"
	checked(t, "too many types", l, 32, 0, api.ErrLong)
	l = append(l[:2:2], l[32])
	x := &l[2]
	checked(t, "name", l, 2, 0, api.ErrName)
	x.Name = "b"
	checked(t, "name twice", l, 2, 0, api.ErrTwice)
	x.Name = "d"
	checked(t, "size", l, 2, 0, api.ErrSize)
	x.Size = 32
	checked(t, "many fields", l, 2, 8, api.ErrLong)
	x.Fields = []api.Field{fld("a", api.FieldLock, 0), fld("1", 0, 4, 1, 1), {}}
	checked(t, "field name", l, 2, 1, api.ErrName)
	x.Fields[1].Name = "a"
	checked(t, "field name twice", l, 2, 1, api.ErrTwice)
	x.Fields[1].Name = "b"
	checked(t, "kind", l, 2, 1, api.ErrKind)
	x.Fields[1].Kind = api.FieldLock
	checked(t, "place: no multiple", l, 2, 1, api.ErrPlace)
	x.Fields[1].At = 0
	checked(t, "place: over another", l, 2, 1, api.ErrPlace)
	x.Fields[1].At = 32
	checked(t, "place: at the end", l, 2, 1, api.ErrPlace)
	x.Fields[1].At = -8
	checked(t, "place: below 0", l, 2, 1, api.ErrPlace)
	x.Fields[1].At = 24
	checked(t, "two locks", l, 2, 1, api.ErrTwice)
	x.Fields[1].Kind = api.FieldRefs
	checked(t, "the next field", l, 2, 2, api.ErrName)
	x.Fields = x.Fields[:2]
	l = append(l, api.Type{})
	x = &l[2]
	checked(t, "mixed", l, 2, 0, api.ErrMixed)
	x.Fields[1].Kind = api.FieldKptr
	checked(t, "the next type", l, 3, 0, api.ErrName)
	l = l[:3]
	checked(t, "of: by a node", l, 2, 1, api.ErrOf)
	l[2].Fields[1].Node = 0
	checked(t, "all is well", l, 0, 0, api.OK)
}
