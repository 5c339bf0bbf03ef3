package types_test

import (
	"math"
	"strings"
	"testing"
	"unsafe"

	"warden/api"
	"warden/types"
)

const exampleBytes = "\x02" +
	"\x01a\x18\x01" + "\x01n\x03\x00\x00\x00" +
	"\x01m\x20\x02" + "\x01l\x07\x00\x00\x00" + "\x01h\x02\x08\x00\x00"

func TestP101Bytes(t *testing.T) {
	for _, c := range []struct {
		l []api.Type
		s string
	}{
		{nil, "\x00"},
		{[]api.Type{}, "\x00"},
		{example(), exampleBytes},
		{[]api.Type{{}}, "\x01\x00\x00\x00"},
		{[]api.Type{{Fields: []api.Field{}}}, "\x01\x00\x00\x00"},
		{[]api.Type{{}, {}}, "\x02\x00\x00\x00\x00\x00\x00"},
		{[]api.Type{{Fields: []api.Field{{}}}}, "\x01\x00\x00\x01\x00\x00\x00\x00\x00"},
		{[]api.Type{typ("\u00e9", 8)}, "\x01\x02\xc3\xa9\x08\x00"},
		// What may not be in a table is written, too.
		{[]api.Type{typ("\xff\x00", 255, fld(" ", 254, 253, 252, 251))}, "\x01\x02\xff\x00\xff\x01\x01 \xfe\xfd\xfc\xfb"},
		{[]api.Type{typ("ab", 7, fld("", 1, 2, 3, 4), fld("xyz", 5, 6, 7, 8)), typ("c", 9)}, "\x02\x02ab\x07\x02\x00\x01\x02\x03\x04\x03xyz\x05\x06\x07\x08\x01c\x09\x00"},
	} {
		if s, e := types.Encode(c.l); s != c.s || e != api.OK {
			t.Errorf("Encode(%v) = %q, %v; want %q", c.l, s, e, c.s)
		}
		if l, e := types.Decode(c.s); !alike(l, c.l) || e != api.OK {
			t.Errorf("Decode(%q) = %v, %v; want %v", c.s, l, e, c.l)
		}
	}
}

// alike is Same, written out again.
func alike(a, b []api.Type) bool {
	if len(a) != len(b) {
		return false
	}
	for n := range a {
		if a[n].Name != b[n].Name || a[n].Size != b[n].Size || len(a[n].Fields) != len(b[n].Fields) {
			return false
		}
		for m, f := range a[n].Fields {
			g := b[n].Fields[m]
			if f.Name != g.Name || f.Kind != g.Kind || f.At != g.At || f.Of != g.Of || f.Node != g.Node {
				return false
			}
		}
	}
	return true
}

// numbers answers where the numbers of a type stand that may be any.
func numbers(x *api.Type) map[string]*int {
	l := map[string]*int{"Size": &x.Size}
	for n := range x.Fields {
		f := &x.Fields[n]
		at := string(rune('0' + n))
		l["At "+at], l["Of "+at], l["Node "+at] = &f.At, &f.Of, &f.Node
	}
	return l
}

// encoded holds Encode against the words of its error, and what it answers against Decode.
func encoded(t *testing.T, what string, l []api.Type, want api.Errno) {
	t.Helper()
	s, e := types.Encode(l)
	if e != want || e != api.OK && s != "" {
		t.Errorf("%s: Encode = %.40q, %v; want %v", what, s, e, want)
	}
	if e != api.OK {
		return
	}
	if back, e := types.Decode(s); e != api.OK || !alike(back, l) {
		t.Errorf("%s: it is read as another one, %v", what, e)
	}
}

func TestP101EachNumber(t *testing.T) {
	for n := range whole() {
		for what := range numbers(&whole()[n]) {
			for _, x := range append([]int{2, 100, 254, 257, 512, 1 << 16, 1 << 32, 1<<32 + 1, -255, -257}, ends...) {
				l := whole()
				*numbers(&l[n])[what] = x
				want := api.OK
				if x < 0 || x > 255 {
					want = api.ErrArg
				}
				encoded(t, what, l, want)
			}
		}
	}
	for kind := range 256 {
		l := whole()
		l[2].Fields[5].Kind = uint8(kind)
		encoded(t, "Kind", l, api.OK)
	}
}

func TestP101Lengths(t *testing.T) {
	for n, want := range map[int]api.Errno{0: api.OK, 1: api.OK, 127: api.OK, 128: api.OK, 254: api.OK, 255: api.OK, 256: api.ErrArg, 257: api.ErrArg, 511: api.ErrArg, 512: api.ErrArg, 65536: api.ErrArg, 65537: api.ErrArg} {
		for _, b := range []string{"a", "\x00", "\xff"} {
			long := strings.Repeat(b, n)
			for at := range whole() {
				l := whole()
				l[at].Name = long
				encoded(t, "a type's name", l, want)
				for field := range l[at].Fields {
					l := whole()
					l[at].Fields[field].Name = long
					encoded(t, "a field's name", l, want)
				}
			}
		}
		for at := range whole() {
			l := whole()
			l[at].Fields = make([]api.Field, n)
			encoded(t, "fields", l, want)
		}
		l := make([]api.Type, n)
		encoded(t, "types", l, want)
		for at := range l {
			l[at] = whole()[at%5]
		}
		encoded(t, "types with fields", l, want)
	}
	// A name's bytes are counted, not its runes.
	encoded(t, "127 runes of two bytes", []api.Type{typ(strings.Repeat("\u00e9", 127), 8)}, api.OK)
	encoded(t, "128 runes of two bytes", []api.Type{typ(strings.Repeat("\u00e9", 128), 8)}, api.ErrArg)
}

// greatest is the table with the most bytes.
func greatest() []api.Type {
	fields := make([]api.Field, 255)
	for n := range fields {
		fields[n] = api.Field{Name: strings.Repeat("f", 255), Kind: 255, At: 255, Of: 255, Node: 255 - n}
	}
	l := make([]api.Type, 255)
	for n := range l {
		l[n] = api.Type{Name: strings.Repeat("t", 255), Size: n, Fields: fields}
	}
	return l
}

func TestP101Greatest(t *testing.T) {
	s, e := types.Encode(greatest())
	if long := 1 + 255*(1+255+1+1+255*(1+255+4)); len(s) != long || e != api.OK {
		t.Fatalf("%d bytes, %v; want %d", len(s), e, long)
	}
	if l, e := types.Decode(s); e != api.OK || !alike(l, greatest()) {
		t.Errorf("it is read as another one, %v", e)
	}
	for _, wrong := range []string{s[:len(s)-1], s[:len(s)/2], s + "\x00", s + s} {
		if l, e := types.Decode(wrong); len(l) != 0 || e != api.ErrForm {
			t.Errorf("%d bytes: %d types, %v; want ErrForm", len(wrong), len(l), e)
		}
	}
}

func refused(t *testing.T, what, s string) {
	t.Helper()
	if l, e := types.Decode(s); len(l) != 0 || e != api.ErrForm {
		t.Errorf("%s: Decode(%.60q) = %v, %v; want ErrForm", what, s, l, e)
	}
}

func TestP101DecodeWrong(t *testing.T) {
	refused(t, "nothing", "")
	for _, l := range [][]api.Type{nil, example(), whole(), {{}}, {{Fields: []api.Field{{}}}}, {typ(strings.Repeat("n", 255), 0, fld(strings.Repeat("f", 255), 0, 0))}} {
		s, e := types.Encode(l)
		if e != api.OK {
			t.Fatal(e)
		}
		for n := range len(s) {
			refused(t, "cut off", s[:n])
		}
		for b := range 256 {
			refused(t, "one more", s+string([]byte{byte(b)}))
		}
		refused(t, "twice", s+s)
	}
}

func TestP101DecodeCounts(t *testing.T) {
	for what, s := range map[string]string{
		"a type more than there is":         "\x03" + exampleBytes[1:],
		"255 types":                         "\xff" + exampleBytes[1:],
		"a type less":                       "\x01" + exampleBytes[1:],
		"no type":                           "\x00" + exampleBytes[1:],
		"a field more than there is":        "\x01\x01a\x18\x02\x01n\x03\x00\x00\x00",
		"255 fields":                        "\x01\x01a\x18\xff\x01n\x03\x00\x00\x00",
		"a field less":                      "\x01\x01a\x18\x00\x01n\x03\x00\x00\x00",
		"a name of a byte more":             "\x01\x05aa\x08\x00",
		"a name of two bytes more":          "\x01\x06aa\x08\x00",
		"a name of 255":                     "\x01\xffaa\x08\x00",
		"a name that takes the size":        "\x01\x02a\x08\x00",
		"a field's name of more than there": "\x01\x01a\x18\x01\x06n\x03\x00\x00\x00",
		"a field's name of 255":             "\x01\x01a\x18\x01\xffn\x03\x00\x00\x00",
		"a field's name of all that is":     "\x01\x01a\x18\x01\x05n\x03\x00\x00\x00",
		"nothing behind many types":         "\xff",
		"nothing behind many fields":        "\x01\x00\x00\xff",
		"fields, and then a cut type":       "\x02\x00\x00\x00\x00",
	} {
		refused(t, what, s)
	}
}

// words reads a table's bytes by the chapter's words: the rest that is not read, and whether all was there.
func words(s string) (l []api.Type, rest string, is bool) {
	if s == "" {
		return nil, "", false
	}
	n, s := int(s[0]), s[1:]
	for range n {
		var x api.Type
		if x.Name, s, is = wordsName(s); !is || len(s) < 2 {
			return nil, "", false
		}
		x.Size = int(s[0])
		fields := int(s[1])
		s = s[2:]
		for range fields {
			var f api.Field
			if f.Name, s, is = wordsName(s); !is || len(s) < 4 {
				return nil, "", false
			}
			f.Kind, f.At, f.Of, f.Node, s = s[0], int(s[1]), int(s[2]), int(s[3]), s[4:]
			x.Fields = append(x.Fields, f)
		}
		l = append(l, x)
	}
	return l, s, true
}

func wordsName(s string) (name, rest string, is bool) {
	if s == "" || len(s)-1 < int(s[0]) {
		return "", "", false
	}
	n := 1 + int(s[0])
	return s[1:n], s[n:], true
}

// decoded holds Decode against the words.
func decoded(t *testing.T, s string) bool {
	t.Helper()
	want, rest, is := words(s)
	is = is && rest == ""
	if !is {
		refused(t, "not a table's", s)
		return false
	}
	l, e := types.Decode(s)
	if e != api.OK || !alike(l, want) {
		t.Fatalf("Decode(%q) = %v, %v; want %v", s, l, e, want)
	}
	if back, e := types.Encode(l); back != s || e != api.OK {
		t.Fatalf("Decode(%q) is written as %q, %v", s, back, e)
	}
	return true
}

func TestP101AllShortTexts(t *testing.T) {
	read := 0
	var grow func(s string, left int)
	grow = func(s string, left int) {
		if decoded(t, s) {
			read++
		}
		if left > 0 {
			for _, b := range []string{"\x00", "\x01", "\x02", "\xff"} {
				grow(s+b, left-1)
			}
		}
	}
	grow("", 8)
	if read < 100 {
		t.Errorf("%d tables were read", read)
	}
	for a := range 256 {
		for _, b := range []byte{0, 1, 2, 3, 127, 128, 253, 254, 255} {
			for n := range 8 {
				decoded(t, string([]byte{byte(a), b})+strings.Repeat("\x00", n))
				decoded(t, string([]byte{b, byte(a)})+strings.Repeat("\x00", n))
			}
		}
	}
}

// Each byte of a table's bytes, changed to each other one.
func TestP101EachByteChanged(t *testing.T) {
	for _, l := range [][]api.Type{example(), whole()} {
		s, _ := types.Encode(l)
		for at := range s {
			for b := range 256 {
				decoded(t, s[:at]+string([]byte{byte(b)})+s[at+1:])
			}
		}
	}
}

func TestP101Same(t *testing.T) {
	same := func(what string, a, b []api.Type, want bool) {
		t.Helper()
		if types.Same(a, b) != want || types.Same(b, a) != want {
			t.Errorf("%s: Same = %v, %v; want %v", what, types.Same(a, b), types.Same(b, a), want)
		}
	}
	bare := []api.Type{{Name: "a", Size: 8}}
	empty := []api.Type{{Name: "a", Size: 8, Fields: []api.Field{}}}
	same("no types, either way", nil, []api.Type{}, true)
	same("no types", nil, nil, true)
	same("no fields, either way", bare, empty, true)
	same("a type and none", bare, nil, false)
	same("an empty type and none", []api.Type{{}}, nil, false)
	same("an empty type and two", []api.Type{{}}, []api.Type{{}, {}}, false)
	same("an empty field and none", []api.Type{{Fields: []api.Field{{}}}}, []api.Type{{}}, false)
	same("an empty field and two", []api.Type{{Fields: []api.Field{{}}}}, []api.Type{{Fields: []api.Field{{}, {}}}}, false)
	same("whole", whole(), whole(), true)
	same("example", example(), example(), true)
	same("two tables", example(), whole(), false)
	for n := range whole() {
		same("all but the last ones", whole()[:n], whole(), false)
		l := append(whole()[:n:n], whole()[n+1:]...)
		same("all but one", l, whole(), false)
		if n > 0 {
			l = whole()
			l[n-1], l[n] = l[n], l[n-1]
			same("two in another order", l, whole(), false)
		}
	}
	// Numbers and names that may not be are compared as they are.
	odd := []api.Type{typ("\xff", math.MinInt, fld("\xff", 200, math.MaxInt, -1, -2))}
	same("odd", odd, copyOf(odd), true)
	same("odd, another one", odd, []api.Type{typ("\xfe", math.MinInt, fld("\xff", 200, math.MaxInt, -1, -2))}, false)
}

// changes answers tables that differ from l in one number or name alone, or in one field or type.
func changes(l []api.Type) map[string][]api.Type {
	all := map[string][]api.Type{}
	put := func(what string, change func(m []api.Type)) {
		m := copyOf(l)
		change(m)
		all[what] = m
	}
	for n := range l {
		which := string(rune('0' + n))
		put("a name, "+which, func(m []api.Type) { m[n].Name += "x" })
		put("a name of no bytes, "+which, func(m []api.Type) { m[n].Name = "" })
		put("a size, "+which, func(m []api.Type) { m[n].Size++ })
		put("a field more, "+which, func(m []api.Type) { m[n].Fields = append(m[n].Fields, api.Field{}) })
		for f := range l[n].Fields {
			one := which + ", " + string(rune('0'+f))
			put("a field's name, "+one, func(m []api.Type) { m[n].Fields[f].Name += "x" })
			put("a field's name of no bytes, "+one, func(m []api.Type) { m[n].Fields[f].Name = "" })
			put("a kind, "+one, func(m []api.Type) { m[n].Fields[f].Kind ^= 8 })
			put("a place, "+one, func(m []api.Type) { m[n].Fields[f].At++ })
			put("an Of, "+one, func(m []api.Type) { m[n].Fields[f].Of++ })
			put("a Node, "+one, func(m []api.Type) { m[n].Fields[f].Node++ })
			put("a field less, "+one, func(m []api.Type) { m[n].Fields = append(m[n].Fields[:f], m[n].Fields[f+1:]...) })
		}
	}
	return all
}

func TestP101SameOfOneChange(t *testing.T) {
	for _, l := range [][]api.Type{example(), whole()} {
		for what, m := range changes(l) {
			if types.Same(l, m) || types.Same(m, l) {
				t.Errorf("%s: Same = true", what)
			}
			if !types.Same(m, copyOf(m)) {
				t.Errorf("%s: it is not the same as itself", what)
			}
		}
	}
}

// An answer shares memory neither with the text, nor with another answer, nor within itself.
func TestR5AnswersAreNew(t *testing.T) {
	text := strings.Clone("\x02\x04name\x08\x02\x02ff\x01\x02\x03\x04\x02gg\x01\x02\x03\x04\x01b\x08\x02\x01f\x01\x02\x03\x04\x01g\x01\x02\x03\x04")
	inText := func(s string) bool {
		from, at := uintptr(unsafe.Pointer(unsafe.StringData(text))), uintptr(unsafe.Pointer(unsafe.StringData(s)))
		return at >= from && at < from+uintptr(len(text))
	}
	l, e := types.Decode(text)
	again, f := types.Decode(text)
	if e != api.OK || f != api.OK {
		t.Fatal(e, f)
	}
	want := copyOf(l)
	for n := range l {
		if inText(l[n].Name) || inText(l[n].Fields[0].Name) || inText(l[n].Fields[1].Name) {
			t.Errorf("a name of type %d is a piece of the text", n)
		}
	}
	_ = append(l[0].Fields, api.Field{Name: "more"})
	if !alike(l, want) {
		t.Errorf("lists of one answer share memory")
	}
	l[0].Fields[0].At, l[0].Name, l[1].Fields[1].Of = 99, "changed", 99
	if !alike(again, want) {
		t.Errorf("two answers share memory")
	}
	if once, e := types.Decode(text); e != api.OK || !alike(once, want) {
		t.Errorf("an answer that was changed is seen by a later call: %v, %v", once, e)
	}
}
