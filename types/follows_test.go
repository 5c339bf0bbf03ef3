package types_test

import (
	"testing"

	"warden/api"
	"warden/types"
)

// stands holds what follows of a table that may be: no byte is covered twice, what is plain is no field's, and it is read as it was written.
func stands(t *testing.T, l []api.Type) {
	t.Helper()
	for n, x := range l {
		covered := make([]int, x.Size)
		for m, f := range x.Fields {
			if f.At < 0 || f.At+types.Size(f.Kind) > x.Size {
				t.Fatalf("%v: field %d of type %d is not within it", l, m, n)
			}
			for _, b := range bytesOf(f) {
				covered[b]++
			}
			if at, is := types.At(x, f.At); at != m || !is {
				t.Fatalf("%v: field %d of type %d is found at %d, %v", l, m, n, at, is)
			}
			if at, is := types.Has(x, f.Kind); at > m || !is {
				t.Fatalf("%v: field %d of type %d: the first of its kind is at %d, %v", l, m, n, at, is)
			}
		}
		for b, times := range covered {
			if times > 1 {
				t.Fatalf("%v: byte %d of type %d is covered %d times", l, b, n, times)
			}
			if types.Plain(x, b, 1) != (times == 0) {
				t.Fatalf("%v: byte %d of type %d is covered %d times, and Plain says %v", l, b, n, times, times == 1)
			}
		}
		for at := range x.Size + 1 {
			whole := true
			for size := 1; size <= x.Size+1; size++ {
				whole = whole && at+size <= x.Size && covered[at+size-1] == 0
				if types.Plain(x, at, size) != whole {
					t.Fatalf("%v: Plain of type %d, %d, %d = %v", l, n, at, size, !whole)
				}
			}
		}
		if at, is := types.Of(l, x.Name); at != n || !is {
			t.Fatalf("%v: type %d is found at %d, %v", l, n, at, is)
		}
	}
	s, e := types.Encode(l)
	back, f := types.Decode(s)
	if e != api.OK || f != api.OK || !types.Same(l, back) || !alike(l, back) {
		t.Fatalf("%v is written as %q, %v, and read as %v, %v", l, s, e, back, f)
	}
}

func TestP104TablesThatMayBe(t *testing.T) {
	for _, l := range [][]api.Type{nil, example(), whole(), many(32), {typ("x", 128, crowd(8)...)}} {
		checked(t, "a table that may be", l, 0, 0, api.OK)
		stands(t, l)
	}
}

// Unlike tables have unlike bytes, like ones the same.
func TestP104UnlikeAreUnlike(t *testing.T) {
	tables := [][]api.Type{nil, {{}}, {{}, {}}, {{Fields: []api.Field{{}}}}, {{Fields: []api.Field{{}, {}}}}, {{Fields: []api.Field{{}}}, {}}}
	for _, l := range [][]api.Type{example(), whole()} {
		tables = append(tables, l)
		for _, m := range changes(l) {
			tables = append(tables, m)
		}
	}
	// Texts and numbers that could be taken for each other.
	tables = append(tables,
		[]api.Type{typ("\x00\x00", 0)}, []api.Type{typ("\x00", 0)}, []api.Type{typ("", 0, fld("\x00", 0, 0))}, []api.Type{typ("", 1)}, []api.Type{typ("\x01", 0)},
		[]api.Type{typ("", 0), typ("", 0), typ("", 0)}, []api.Type{typ("", 0, fld("", 0, 0, 1))}, []api.Type{typ("", 0, fld("", 0, 0, 0, 1))}, []api.Type{typ("", 0, fld("", 0, 1))}, []api.Type{typ("", 0, fld("", 1, 0))})
	for n, a := range tables {
		s, e := types.Encode(a)
		if e != api.OK {
			t.Fatal(a, e)
		}
		if back, e := types.Decode(s); e != api.OK || !types.Same(a, back) {
			t.Errorf("%v is read as %v, %v", a, back, e)
		}
		for m, b := range tables {
			u, _ := types.Encode(b)
			if same := types.Same(a, b); same != (s == u) || same != alike(a, b) || n == m && !same {
				t.Errorf("%v and %v: Same = %v; bytes %q and %q", a, b, same, s, u)
			}
		}
	}
}

// Each field of a table that may be is told of when it is moved over another one.
func TestP104NoByteTwice(t *testing.T) {
	for n, x := range whole() {
		for m := range x.Fields {
			for at := 0; at <= x.Size-types.Size(x.Fields[m].Kind); at += 8 {
				l := whole()
				l[n].Fields[m].At = at
				free := true
				for o, f := range x.Fields {
					apart := f.At+types.Size(f.Kind) <= at || at+types.Size(x.Fields[m].Kind) <= f.At
					free = free && (o == m || apart)
				}
				_, _, e := types.Check(l)
				if free && e != api.OK || !free && e != api.ErrPlace {
					t.Errorf("type %d, field %d at %d: %v", n, m, at, e)
				}
			}
		}
	}
}
