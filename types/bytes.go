package types

import (
	"strings"

	"warden/api"
	"warden/word"
)

// most is the greatest number that one byte can tell.
const most = 255

// Encode answers the table's bytes; ErrArg, if a number or a length is none of one byte.
func Encode(l []api.Type) (string, api.Errno) {
	if !areBytes(l) {
		return "", api.ErrArg
	}
	var b strings.Builder
	numbers := func(l ...int) {
		for _, x := range l {
			b.WriteString(word.Of(uint64(x), 1))
		}
	}
	text := func(s string) {
		numbers(len(s))
		b.WriteString(s)
	}
	numbers(len(l))
	for _, t := range l {
		text(t.Name)
		numbers(t.Size, len(t.Fields))
		for _, f := range t.Fields {
			text(f.Name)
			numbers(int(f.Kind), f.At, f.Of, f.Node)
		}
	}
	return b.String(), api.OK
}

// areBytes answers whether each number and each length of the table is one of one byte.
func areBytes(l []api.Type) bool {
	if !isByte(len(l)) {
		return false
	}
	for _, t := range l {
		if !isByte(len(t.Name), t.Size, len(t.Fields)) {
			return false
		}
		for _, f := range t.Fields {
			if !isByte(len(f.Name), f.At, f.Of, f.Node) {
				return false
			}
		}
	}
	return true
}

// isByte answers whether each of these is a number of one byte.
func isByte(l ...int) bool {
	for _, x := range l {
		if x < 0 || x > most {
			return false
		}
	}
	return true
}

// Decode answers the table whose bytes these are; ErrForm, if they are wanting, or there are more.
func Decode(s string) ([]api.Type, api.Errno) {
	number, text, whole := reader(s)
	field := func() api.Field {
		f := api.Field{Name: text()}
		f.Kind = uint8(number())
		f.At = number()
		f.Of = number()
		f.Node = number()
		return f
	}
	l := several(number(), func() api.Type {
		t := api.Type{Name: text()}
		t.Size = number()
		t.Fields = several(number(), field)
		return t
	})
	if !whole() {
		return nil, api.ErrForm
	}
	return l, api.OK
}

// reader answers what reads the bytes of s, one behind the other: a number, a text with its length ahead of it; and what tells whether all that was read was there, and nothing is left.
func reader(s string) (number func() int, text func() string, whole func() bool) {
	at, short := 0, false
	// Once bytes are wanting nothing more is read: what follows would be read from a wrong place.
	take := func(n int) string {
		short = short || n > len(s)-at
		if short {
			return ""
		}
		at += n
		return s[at-n : at]
	}
	number = func() int {
		// Without a byte the number is 0, and whole tells of it.
		x, _ := word.Get(take(1), 0, 1)
		return int(x)
	}
	text = func() string {
		// A piece of s would share its memory.
		return strings.Clone(take(number()))
	}
	whole = func() bool { return !short && at == len(s) }
	return number, text, whole
}

// several answers n things, read one behind the other.
func several[E any](n int, read func() E) []E {
	l := make([]E, n)
	for i := range l {
		l[i] = read()
	}
	return l
}
