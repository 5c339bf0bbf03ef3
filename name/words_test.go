package name_test

// The chapter's words, written out again without the library's knowledge of texts, and held against the package over all short texts of chosen bytes and pieces.

import (
	"slices"
	"strings"
	"testing"

	"warden/name"
)

// read answers the runes of valid text, each byte looked at by itself.
func read(s string) ([]rune, bool) {
	var l []rune
	for at := 0; at < len(s); {
		n, first := 1, rune(s[at])
		switch {
		case s[at] < 0x80:
		case s[at]&0xe0 == 0xc0:
			n, first = 2, first&0x1f
		case s[at]&0xf0 == 0xe0:
			n, first = 3, first&0x0f
		case s[at]&0xf8 == 0xf0:
			n, first = 4, first&0x07
		default:
			return nil, false
		}
		if at+n > len(s) {
			return nil, false
		}
		r := first
		for _, b := range []byte(s[at+1 : at+n]) {
			if b&0xc0 != 0x80 {
				return nil, false
			}
			r = r<<6 | rune(b&0x3f)
		}
		if n != needed(r) || 55_296 <= r && r <= 57_343 || r > 1_114_111 {
			return nil, false
		}
		l = append(l, r)
		at += n
	}
	return l, true
}

// needed answers how many bytes the rune needs.
func needed(r rune) int {
	switch {
	case r < 1<<7:
		return 1
	case r < 1<<11:
		return 2
	case r < 1<<16:
		return 3
	}
	return 4
}

// write answers the rune's bytes.
func write(r rune) string {
	n := needed(r)
	if n == 1 {
		return string([]byte{byte(r)})
	}
	b := make([]byte, n)
	for at := n - 1; at > 0; at-- {
		b[at] = 0x80 | byte(r&0x3f)
		r >>= 6
	}
	lead := 0xf00 >> n // as many ones as bytes
	b[0] = byte(lead) | byte(r)
	return string(b)
}

func wordsLetter(r rune) bool {
	return strings.ContainsRune("abcdefghijklmnopqrstuvwxyzABCDEFGHIJKLMNOPQRSTUVWXYZ_", r) || r >= 192 && r != 215 && r != 247
}

func wordsDigit(r rune) bool {
	return strings.ContainsRune("0123456789", r)
}

func wordsName(l []rune) bool {
	for _, r := range l {
		if !wordsLetter(r) && !wordsDigit(r) {
			return false
		}
	}
	return 1 <= len(l) && len(l) <= 32 && !wordsDigit(l[0])
}

func wordsCompare(a, b string) int {
	l, valid := read(a)
	m, too := read(b)
	switch {
	case valid && too:
		return slices.Compare(l, m)
	case valid:
		return -1
	case too:
		return 1
	}
	return slices.Compare([]byte(a), []byte(b))
}

// wordsWords parts the runes wherever one is neither a letter nor a digit.
func wordsWords(s string) []string {
	l, valid := read(s)
	if !valid {
		return nil
	}
	var names []string
	var row []rune
	for _, r := range append(l, ' ') {
		if wordsLetter(r) || wordsDigit(r) {
			row = append(row, r)
			continue
		}
		if wordsName(row) {
			var b strings.Builder
			for _, r := range row {
				b.WriteString(write(r))
			}
			names = append(names, b.String())
		}
		row = nil
	}
	return names
}

// asked holds all calls that take one text against the words.
func asked(t *testing.T, s string) {
	t.Helper()
	l, valid := read(s)
	n := -1
	if valid {
		n = len(l)
	}
	if got := name.Runes(s); got != n {
		t.Fatalf("Runes(%q) = %d; want %d", s, got, n)
	}
	if got := name.May(s); got != (valid && wordsName(l)) {
		t.Fatalf("May(%q) = %v", s, got)
	}
	if got, want := name.Words(s), wordsWords(s); !slices.Equal(got, want) {
		t.Fatalf("Words(%q) = %q; want %q", s, got, want)
	}
}

// texts goes through all texts of at most n pieces.
func texts(n int, pieces []string) func(yield func(string) bool) {
	return func(yield func(string) bool) {
		var grow func(s string, left int) bool
		grow = func(s string, left int) bool {
			if !yield(s) {
				return false
			}
			if left == 0 {
				return true
			}
			for _, p := range pieces {
				if !grow(s+p, left-1) {
					return false
				}
			}
			return true
		}
		grow("", n)
	}
}

func TestP91EachRune(t *testing.T) {
	for r := range rune(1_114_112) {
		s := write(r)
		if 55_296 <= r && r <= 57_343 {
			if name.Runes(s) != -1 || name.May(s) || name.Letter(r) {
				t.Fatalf("%d, written out, is taken as a rune", r)
			}
			continue
		}
		is := wordsLetter(r)
		if name.Runes(s) != 1 || name.Letter(r) != is || name.May(s) != is {
			t.Fatalf("rune %d: Runes = %d, Letter = %v, May = %v", r, name.Runes(s), name.Letter(r), name.May(s))
		}
		if got := name.May("a" + s); got != (is || wordsDigit(r)) {
			t.Fatalf("rune %d, behind a letter: May = %v", r, got)
		}
	}
}

func TestP91AllShortTexts(t *testing.T) {
	var all, edges []string
	for b := range 256 {
		all = append(all, string([]byte{byte(b)}))
	}
	for _, b := range []byte("a0 \x7f\x80\x8f\x90\x9f\xa0\xbf\xc0\xc1\xc2\xc3\xdf\xe0\xe1\xed\xef\xf0\xf4\xf5") {
		edges = append(edges, string([]byte{b}))
	}
	for s := range texts(2, all) {
		asked(t, s)
	}
	for s := range texts(4, edges) {
		asked(t, s)
	}
}

func TestP93AllRowsOfPieces(t *testing.T) {
	long := strings.Repeat("a", 31)
	pieces := []string{"a", "_", "7", " ", ",", "\u00e9", "\u00d7", "\ufffd", "\U0001d4b3", long, "\xe9"}
	for s := range texts(4, pieces) {
		asked(t, s)
	}
}

// orderTexts are texts whose order is asked of each pair.
func orderTexts() []string {
	pieces := []string{"\x00", "a", "z", "\x7f", "\u0080", "\u07ff", "\u0800", "\ufffd", "\uffff", "\U00010000", "\U0010ffff", "\x80", "\xc3", "\xff"}
	var l []string
	for s := range texts(2, pieces) {
		l = append(l, s)
	}
	for _, s := range wrongTexts() {
		l = append(l, s)
	}
	return l
}

func TestP92AllPairs(t *testing.T) {
	l := orderTexts()
	for _, a := range l {
		for _, b := range l {
			if got, want := name.Compare(a, b), wordsCompare(a, b); got != want {
				t.Fatalf("Compare(%q, %q) = %d; want %d", a, b, got, want)
			}
		}
	}
}
