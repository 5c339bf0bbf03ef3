package name_test

import (
	"math"
	"slices"
	"strings"
	"testing"
	"unsafe"

	"warden/api"
	"warden/name"
)

// wrongTexts are texts that are not valid, each with what is wrong with it.
func wrongTexts() map[string]string {
	return map[string]string{
		"a byte 233 alone":                      "\xe9",
		"a byte that begins no rune":            "\x80",
		"the last byte that begins no rune":     "\xbf",
		"a byte that no rune has":               "\xff",
		"another one":                           "\xf8",
		"one more":                              "\xc0",
		"in front":                              "\xffa",
		"between":                               "a\xffb",
		"behind":                                "a\xff",
		"behind a rune of two bytes":            "\u00e9\x80",
		"two bytes, cut off":                    "a\xc3",
		"two bytes, cut off by a letter":        "\xc3a",
		"three bytes, cut off":                  "\xe2\x82",
		"three bytes, cut off behind the first": "a\xe2",
		"four bytes, cut off":                   "\xf0\x9d\x92",
		"four bytes, cut off behind the second": "\xf0\x9d",
		"four bytes, cut off behind the first":  "\xf0",
		"65,533, cut off":                       "\xef\xbf",
		"65,533, and half of it":                "\ufffd\xef\xbf",
		"half of 65,533, and it":                "\xef\xbf\ufffd",
		"55,296 written out":                    "\xed\xa0\x80",
		"56,319 written out":                    "\xed\xaf\xbf",
		"56,320 written out":                    "\xed\xb0\x80",
		"57,343 written out":                    "\xed\xbf\xbf",
		"a pair of them":                        "\xed\xa0\xb5\xed\xb2\xb3",
		"1,114,112":                             "\xf4\x90\x80\x80",
		"2,097,151":                             "\xf7\xbf\xbf\xbf",
		"five bytes":                            "\xf8\x88\x80\x80\x80",
		"six bytes":                             "\xfc\x84\x80\x80\x80\x80",
		"0 in two bytes":                        "\xc0\x80",
		"a in two bytes":                        "\xc1\xa1",
		"127 in two bytes":                      "\xc1\xbf",
		"128 in three bytes":                    "\xe0\x82\x80",
		"2,047 in three bytes":                  "\xe0\x9f\xbf",
		"2,048 in four bytes":                   "\xf0\x80\xa0\x80",
		"65,535 in four bytes":                  "\xf0\x8f\xbf\xbf",
	}
}

func TestP91Letter(t *testing.T) {
	for _, c := range []struct {
		is   bool
		from rune
		to   rune
	}{
		{false, math.MinInt32, math.MinInt32 + 100},
		{false, -100_000, -1},
		{false, 0, 47},
		{false, '0', '9'},
		{false, 58, 64},
		{true, 'A', 'Z'},
		{false, 91, 94},
		{true, '_', '_'},
		{false, 96, 96},
		{true, 'a', 'z'},
		{false, 123, 191},
		{true, 192, 214},
		{false, 215, 215},
		{true, 216, 246},
		{false, 247, 247},
		{true, 248, 55_295},
		{false, 55_296, 57_343},
		{true, 57_344, 1_114_111},
		{false, 1_114_112, 1_300_000},
		{false, math.MaxInt32 - 100, math.MaxInt32 - 1},
		{false, math.MaxInt32, math.MaxInt32},
	} {
		for n := range int64(c.to) - int64(c.from) + 1 {
			r := rune(int64(c.from) + n)
			if name.Letter(r) != c.is {
				t.Fatalf("Letter(%d) = %v", r, !c.is)
			}
		}
	}
}

func TestP91Runes(t *testing.T) {
	for _, c := range []struct {
		s string
		n int
	}{
		{"", 0},
		{"a", 1},
		{"\x00", 1},
		{"\x7f", 1},
		{"\u0080", 1},
		{"\u07ff", 1},
		{"\u0800", 1},
		{"\ud7ff", 1},
		{"\ue000", 1},
		{"\uffff", 1},
		{"\U00010000", 1},
		{"\U0010ffff", 1},
		{"a\u00e9", 2},
		{"\u00e9a", 2},
		{"a\u00e9\u20ac\U0001d4b3", 4},
		{"\U0001d4b3\u20ac\u00e9a", 4},
		{"\ufffd", 1},
		{"a\ufffdb", 3},
		{"\ufffd\ufffd", 2},
		{"1 2\n", 4},
		{strings.Repeat("\u20ac", 100_000), 100_000},
	} {
		if n := name.Runes(c.s); n != c.n {
			t.Errorf("Runes(%.40q) = %d; want %d", c.s, n, c.n)
		}
	}
}

func TestP91RunesOfWrongTexts(t *testing.T) {
	for what, s := range wrongTexts() {
		for _, s := range []string{s, "a" + s, s + "a", "\ufffd" + s, s + "\u20ac", strings.Repeat("a", 1000) + s} {
			if n := name.Runes(s); n != -1 {
				t.Errorf("%s: Runes(%.40q) = %d; want -1", what, s, n)
			}
			if name.May(s) {
				t.Errorf("%s: May(%.40q)", what, s)
			}
		}
	}
}

func TestP91May(t *testing.T) {
	for _, c := range []struct {
		is bool
		l  []string
	}{
		{true, []string{
			"node_1", "\u00e9", "a", "z", "A", "Z", "_", "__", "_0", "a0", "z9", "a1b2", "Az_09",
			"\u00c0", "\u00d6", "\u00d8", "\u00f6", "\u00f8", "\u07ff", "\u0800", "\u20ac", "\ud7ff", "\ue000", "\uffff", "\U00010000", "\U0001d4b3", "\U0010ffff",
			"\ufffd", "a\ufffd", "\ufffda", "\u00e91", "\u06601", "a\u00e9\u20ac\U0001d4b3", "\U0001d4b3\u20ac\u00e9a",
		}},
		{false, []string{
			"", "1a", "0", "9", "0a", "9_", "1\u00e9", " ", " a", "a ", "a b", "a,b", "a-b", "a.b", "a/b", "a:b", "a\x00", "\x00a", "a\n",
			"@", "[", "^", "`", "{", "a@", "a[", "a^", "a`", "a{", "\x7f", "a\u0080", "\u00bf", "a\u00bf", "\u00d7", "a\u00d7", "\u00d7a", "\u00f7", "a\u00f7b",
		}},
	} {
		for _, s := range c.l {
			if name.May(s) != c.is {
				t.Errorf("May(%q) = %v", s, !c.is)
			}
		}
	}
}

func TestP91MayByLength(t *testing.T) {
	if api.MaxName != 32 {
		t.Fatalf("MaxName = %d", api.MaxName)
	}
	for _, first := range []string{"a", "_", "\u00e9", "\u20ac", "\U0001d4b3"} {
		for _, other := range []string{"a", "_", "0", "9", "\u00e9", "\u20ac", "\U0001d4b3"} {
			for n := range 3 * 32 {
				s := first + strings.Repeat(other, n)
				if is := name.May(s); is != (n+1 <= 32) {
					t.Errorf("May(%q), of %d runes, = %v", s, n+1, is)
				}
				if s := "1" + s; name.May(s) {
					t.Errorf("May(%q)", s)
				}
				if s := s + "-"; name.May(s) {
					t.Errorf("May(%q)", s)
				}
				if s := s + "\xff"; name.May(s) {
					t.Errorf("May(%q)", s)
				}
			}
		}
	}
}

// compared asks Compare either way about.
func compared(t *testing.T, a, b string, want int) {
	t.Helper()
	if c := name.Compare(a, b); c != want {
		t.Errorf("Compare(%.40q, %.40q) = %d; want %d", a, b, c, want)
	}
	if c := name.Compare(b, a); c != -want {
		t.Errorf("Compare(%.40q, %.40q) = %d; want %d", b, a, c, -want)
	}
}

func TestP92Compare(t *testing.T) {
	for _, c := range []struct {
		a, b string
		want int
	}{
		{"", "", 0},
		{"a", "a", 0},
		{"a\u00e9\u20ac\U0001d4b3", "a\u00e9\u20ac\U0001d4b3", 0},
		{"\ufffd", "\ufffd", 0},
		{"", "a", -1},
		{"", "\x00", -1},
		{"a", "ab", -1},
		{"a", "a\x00", -1},
		{"\u00e9", "\u00e9\x00", -1},
		{"a", "b", -1},
		{"A", "a", -1},
		{"Z", "_", -1},
		{"_", "a", -1},
		{"a1", "aa", -1},
		{"ab", "b", -1},
		{"abz", "ac", -1},
		{"a10", "a9", -1},
		{"z", "\u00e9", -1},
		{"zzzz", "\u00e9", -1},
		{"\x7f", "\u0080", -1},
		{"\u00e9", "\u00ea", -1},
		{"\u00ff", "\u0100", -1},
		{"\u013f", "\u0140", -1},
		{"\u07ff", "\u0800", -1},
		{"\u07ff\u07ff", "\u0800", -1},
		{"\ud7ff", "\ue000", -1},
		{"\uffff", "\U00010000", -1},
		{"\ufffd", "\uffff", -1},
		{"\uffff\uffff", "\U00010000", -1},
		{"\U00010000", "\U0010ffff", -1},
		{"a\u00e9", "a\u20ac", -1},
		{"a\u20ac", "a\U0001d4b3", -1},
		{"a\u20acz", "a\U0001d4b3", -1},
		{"\u00e9a", "\u00e9b", -1},
		{strings.Repeat("a", 1000), strings.Repeat("a", 1001), -1},
		{strings.Repeat("a", 1000) + "b", strings.Repeat("a", 1001), 1},
	} {
		compared(t, c.a, c.b, c.want)
	}
}

func TestP92CompareOfWrongTexts(t *testing.T) {
	for _, wrong := range wrongTexts() {
		compared(t, wrong, wrong, 0)
		for _, valid := range []string{"", "a", "z", "a\u00e9", "\ufffd", "\ufffd\ufffd", "\uffff", "\U0010ffff", strings.Repeat("\U0010ffff", 9)} {
			compared(t, valid, wrong, -1)
		}
		for _, other := range wrongTexts() {
			compared(t, wrong, other, strings.Compare(wrong, other))
		}
	}
	for _, c := range []struct {
		a, b string
		want int
	}{
		{"b", "a\xff", -1},
		{"a\u00e9b", "a\xc3", -1},
		{"\U0010ffff", "\x80", -1},
		{"\u00e9", "\xc3", -1},
		{"\x80", "\xff", -1},
		{"a\xff", "b\x80", -1},
		{"\x80", "\x80a", -1},
		{"\x80", "\x80\x00", -1},
		{"a\x80", "a\xff", -1},
		{"\xff", "\xff\xff", -1},
		{"\xed\xa0\x80", "\xee\x80\x80\xff", -1},
		{"\xef\xbf", "\ufffd\xff", -1},
		{"\xf0\x80\xa0\x80", "\xf4\x90\x80\x80", -1},
		{"\xc1\xa1", "b\xff", 1},
	} {
		compared(t, c.a, c.b, c.want)
	}
}

func TestP93Words(t *testing.T) {
	long := strings.Repeat("a", 32)
	wide := strings.Repeat("\u20ac", 32)
	for _, c := range []struct {
		s    string
		want []string
	}{
		{"a b1, 2c \u00e9", []string{"a", "b1", "\u00e9"}},
		{"", nil},
		{" ", nil},
		{"12 3", nil},
		{" ,;.-+()\n\t\x00\x7f", nil},
		{"\u00d7\u00f7\u00bf\u0080", nil},
		{"a", []string{"a"}},
		{"\u00e9", []string{"\u00e9"}},
		{"\ufffd", []string{"\ufffd"}},
		{"node_1", []string{"node_1"}},
		{"a b", []string{"a", "b"}},
		{"a,b", []string{"a", "b"}},
		{"b a b", []string{"b", "a", "b"}},
		{" a", []string{"a"}},
		{"a ", []string{"a"}},
		{"  a  b  ", []string{"a", "b"}},
		{"a\x00b", []string{"a", "b"}},
		{"a\u00d7b", []string{"a", "b"}},
		{"\u00e9\u00f7\u20ac", []string{"\u00e9", "\u20ac"}},
		{"\u00d7a\u00d7", []string{"a"}},
		{"a-b.c/d:e@f[g^h`i{j", []string{"a", "b", "c", "d", "e", "f", "g", "h", "i", "j"}},
		{"a\u2014b", []string{"a\u2014b"}}, // from 192 on all runes but two are letters
		{"a\ufffdb", []string{"a\ufffdb"}},
		{"a\u00e9\u20ac\U0001d4b3 \U0001d4b3\u20ac\u00e9a", []string{"a\u00e9\u20ac\U0001d4b3", "\U0001d4b3\u20ac\u00e9a"}},
		{"2c", nil},
		{"2c a", []string{"a"}},
		{"a 2c", []string{"a"}},
		{"a 2c b", []string{"a", "b"}},
		{"2_ 3\u00e9 4", nil},
		{"c2 2c", []string{"c2"}},
		{"-2c-c2-", []string{"c2"}},
		{long, []string{long}},
		{long + "a", nil},
		{long + "1", nil},
		{long + "\u00e9", nil},
		{long + " a", []string{long, "a"}},
		{long + "a b", []string{"b"}},
		{"b " + long + "a", []string{"b"}},
		{"b " + long + "a c", []string{"b", "c"}},
		{long + long + " b", []string{"b"}},
		{"1" + long, nil},
		{"1" + long + " b", []string{"b"}},
		{long + "a " + long + " " + long + "a", []string{long}},
		{wide, []string{wide}},
		{wide + "\u20ac", nil},
		{wide + "a", nil},
		{"a " + wide + "\u20ac b " + wide, []string{"a", "b", wide}},
		{strings.Repeat("a", 100_000) + "-b", []string{"b"}},
		{strings.Repeat("a ", 100_000), slices.Repeat([]string{"a"}, 100_000)},
	} {
		if l := name.Words(c.s); !slices.Equal(l, c.want) {
			t.Errorf("Words(%.60q) = %.60q; want %.60q", c.s, l, c.want)
		}
	}
}

func TestP93WordsOfWrongTexts(t *testing.T) {
	for what, wrong := range wrongTexts() {
		for _, s := range []string{wrong, "a " + wrong, wrong + " a", "a " + wrong + " b", "\ufffd " + wrong, "a b c" + wrong} {
			if l := name.Words(s); len(l) != 0 {
				t.Errorf("%s: Words(%q) = %q", what, s, l)
			}
		}
	}
}

// R5: no word is a piece of the text that came.
func TestP93WordsAreNewMemory(t *testing.T) {
	for _, s := range []string{"a", "node_1", "a b1, 2c \u00e9"} {
		s := strings.Clone(s)
		low := uintptr(unsafe.Pointer(unsafe.StringData(s)))
		for _, w := range name.Words(s) {
			at := uintptr(unsafe.Pointer(unsafe.StringData(w)))
			if low <= at && at < low+uintptr(len(s)) {
				t.Errorf("Words(%q): %q shares the text's memory", s, w)
			}
		}
	}
}
