package name_test

import (
	"slices"
	"strings"
	"testing"

	"warden/name"
)

// someNames are names of 1 to 32 runes, of one to four bytes each.
func someNames() []string {
	var l []string
	for s := range texts(4, []string{"a", "Z", "_", "0", "9", "\u00e9", "\u20ac", "\ufffd", "\U0010ffff"}) {
		if s != "" && s[0] != '0' && s[0] != '9' {
			l = append(l, s)
		}
	}
	for n := range 32 {
		l = append(l, "a"+strings.Repeat("0", n), strings.Repeat("\U0001d4b3", n+1), "\u00e9"+strings.Repeat("\u20ac", n))
	}
	return l
}

// The order is one: who stands ahead in the row that was put in order stands ahead of all behind it.
func TestP94OneOrder(t *testing.T) {
	l := orderTexts()
	slices.SortFunc(l, name.Compare)
	l = slices.Compact(l)
	for n, a := range l {
		for m, b := range l {
			want := 0
			switch {
			case n < m:
				want = -1
			case n > m:
				want = 1
			}
			if got := name.Compare(a, b); got != want {
				t.Fatalf("Compare(%q, %q) = %d; want %d, as they stand", a, b, got, want)
			}
		}
	}
	valid := func(s string) bool { return name.Runes(s) >= 0 }
	first := slices.IndexFunc(l, func(s string) bool { return !valid(s) })
	if first < 1 || slices.ContainsFunc(l[first:], valid) {
		t.Errorf("a valid text stands behind one that is not")
	}
}

// The order is that of the bytes, among all valid texts, and among all others.
func TestP94OrderOfBytes(t *testing.T) {
	l := orderTexts()
	for _, a := range l {
		for _, b := range l {
			if (name.Runes(a) < 0) != (name.Runes(b) < 0) {
				continue
			}
			if got, want := name.Compare(a, b), slices.Compare([]byte(a), []byte(b)); got != want {
				t.Fatalf("Compare(%q, %q) = %d; their bytes: %d", a, b, got, want)
			}
		}
	}
	ahead := ""
	for r := range rune(1_114_112) {
		if 55_296 <= r && r <= 57_343 {
			continue
		}
		s := write(r)
		if name.Compare(ahead, s) != -1 || name.Compare(s, ahead) != 1 || name.Compare(s, s) != 0 {
			t.Fatalf("rune %d is not behind the one ahead of it", r)
		}
		ahead = s
	}
}

func TestP94NamesWithBlanks(t *testing.T) {
	l := someNames()
	if got := name.Words(strings.Join(l, " ")); !slices.Equal(got, l) {
		t.Errorf("all names with a blank between are not read as they are")
	}
	for n, a := range l {
		b := l[len(l)-1-n]
		if got := name.Words(a + " " + b); !slices.Equal(got, []string{a, b}) {
			t.Fatalf("Words(%q) = %q", a+" "+b, got)
		}
		if got := name.Words(a); !slices.Equal(got, []string{a}) {
			t.Fatalf("Words(%q) = %q", a, got)
		}
	}
}

// What Words answers are names, and stays as it is with blanks between.
func TestP94WordsAreNames(t *testing.T) {
	for s := range texts(4, []string{"a", "7", " ", "-", "\u00e9", "\u00f7", strings.Repeat("b", 31)}) {
		l := name.Words(s)
		for _, w := range l {
			if !name.May(w) {
				t.Fatalf("Words(%q) = %q, with a word that is no name", s, l)
			}
		}
		if again := name.Words(strings.Join(l, " ")); !slices.Equal(again, l) {
			t.Fatalf("Words(%q) = %q; of these with blanks %q", s, l, again)
		}
	}
}

func TestP94BeginningsAreNames(t *testing.T) {
	for _, s := range someNames() {
		if !name.May(s) {
			t.Fatalf("May(%q) = false", s)
		}
		for at := range s {
			if begin := s[:at]; at > 0 && (!name.May(begin) || name.Compare(begin, s) != -1) {
				t.Fatalf("%q, a beginning of %q: May = %v, Compare = %d", begin, s, name.May(begin), name.Compare(begin, s))
			}
		}
	}
}
