package word_test

import (
	"math"
	"math/big"
	"strings"
	"testing"

	"warden/api"
	"warden/word"
)

var sizes = []int{1, 2, 4, 8}

var noSizes = []int{math.MinInt, math.MinInt + 1, -256, -8, -4, -2, -1, 0, 3, 5, 6, 7, 9, 12, 16, 32, 64, 256, 257, 1 << 32, math.MaxInt - 1, math.MaxInt}

// numbers has the edges of every size, and numbers whose bytes all differ.
func numbers() []uint64 {
	l := []uint64{0, 1, 2, 97, 258, 24930, 0x0102030405060708, 0xf1e2d3c4b5a69788, 0x8877665544332211, 0xaaaaaaaaaaaaaaaa, 0x5555555555555555}
	for bit := range 64 {
		p := uint64(1) << bit
		l = append(l, p-1, p, p+1, -p, -p-1, ^uint64(0)>>bit)
	}
	return l
}

// power is 256 to the power of size.
func power(size int) *big.Int {
	return new(big.Int).Exp(big.NewInt(256), big.NewInt(int64(size)), nil)
}

// lowOf reckons as the document's words do, apart from the bits that the package goes by.
func lowOf(x uint64, size int) *big.Int {
	return new(big.Int).Mod(new(big.Int).SetUint64(x), power(size))
}

// bytesOf divides by 256, over and over.
func bytesOf(x uint64, size int) string {
	b := make([]byte, size)
	for i := range b {
		b[i] = byte(x % 256)
		x /= 256
	}
	return string(b)
}

// signOf is the number with a sign, told by where the half of its size's numbers ends.
func signOf(x uint64, size int) int64 {
	l := lowOf(x, size)
	if new(big.Int).Lsh(l, 1).Cmp(power(size)) >= 0 {
		l.Sub(l, power(size))
	}
	return l.Int64()
}

func TestP11GetOrdinary(t *testing.T) {
	const s = "\x01\x02\x03\x04\x05\x06\x07\x08\xff"
	for _, c := range []struct {
		at, size int
		want     uint64
	}{
		{0, 1, 0x01}, {0, 2, 0x0201}, {0, 4, 0x04030201}, {0, 8, 0x0807060504030201},
		{1, 1, 0x02}, {1, 2, 0x0302}, {1, 4, 0x05040302}, {1, 8, 0xff08070605040302},
		{8, 1, 0xff}, {7, 2, 0xff08}, {5, 4, 0xff080706}, {3, 2, 0x0504},
	} {
		if x, e := word.Get(s, c.at, c.size); x != c.want || e != api.OK {
			t.Errorf("Get(s, %d, %d) = %#x, %v; want %#x", c.at, c.size, x, e, c.want)
		}
	}
}

func TestP11GetHighBytes(t *testing.T) {
	for _, size := range sizes {
		s := strings.Repeat("\xff", size)
		want := new(big.Int).Sub(power(size), big.NewInt(1)).Uint64()
		if x, e := word.Get(s, 0, size); x != want || e != api.OK {
			t.Errorf("size %d: %#x, %v; want %#x", size, x, e, want)
		}
	}
}

func TestP11GetEnds(t *testing.T) {
	text := "\x81\x92\xa3\xb4\xc5\xd6\xe7\xf8\x09\x1a\x2b"
	for _, size := range sizes {
		for long := range len(text) + 1 {
			s := text[:long]
			for at := range long + size + 2 {
				x, e := word.Get(s, at, size)
				if at+size > long {
					if x != 0 || e != api.ErrShort {
						t.Errorf("Get of %d bytes, %d, %d = %#x, %v; want ErrShort", long, at, size, x, e)
					}
				} else if e != api.OK || bytesOf(x, 8) != s[at:at+size]+strings.Repeat("\x00", 8-size) {
					t.Errorf("Get of %d bytes, %d, %d = %#x, %v", long, at, size, x, e)
				}
			}
		}
	}
}

// wrong holds places and sizes that may not be, with what is to be answered of a text of ten bytes.
func wrong() []struct {
	at, size int
	want     api.Errno
} {
	type row = struct {
		at, size int
		want     api.Errno
	}
	var l []row
	for _, size := range noSizes {
		// That it is no size comes first, wherever the place is.
		for _, at := range []int{math.MinInt, -1, 0, 1, 9, 10, 11, math.MaxInt} {
			l = append(l, row{at, size, api.ErrArg})
		}
	}
	for _, size := range sizes {
		for _, at := range []int{-1, -2, -size, -10, math.MinInt + 1, math.MinInt} {
			l = append(l, row{at, size, api.ErrArg})
		}
		for _, at := range []int{11 - size, 10, 11, 1 << 31, 1 << 32, math.MaxInt - 8, math.MaxInt - size + 1, math.MaxInt - 1, math.MaxInt} {
			l = append(l, row{at, size, api.ErrShort})
		}
	}
	return l
}

func TestP11GetWrong(t *testing.T) {
	for _, c := range wrong() {
		if x, e := word.Get("abcdefghij", c.at, c.size); x != 0 || e != c.want {
			t.Errorf("Get(s, %d, %d) = %d, %v; want 0, %v", c.at, c.size, x, e, c.want)
		}
	}
	// Without any bytes it is the argument that is told of first, too.
	if x, e := word.Get("", -1, 1); x != 0 || e != api.ErrArg {
		t.Error(x, e)
	}
	if x, e := word.Get("", 0, 3); x != 0 || e != api.ErrArg {
		t.Error(x, e)
	}
	if x, e := word.Get("", 0, 1); x != 0 || e != api.ErrShort {
		t.Error(x, e)
	}
}

func TestP11Low(t *testing.T) {
	for _, c := range []struct {
		x    uint64
		size int
		want uint64
	}{
		{0x0102030405060708, 1, 0x08}, {0x0102030405060708, 2, 0x0708}, {0x0102030405060708, 4, 0x05060708}, {0x0102030405060708, 8, 0x0102030405060708},
		{255, 1, 255}, {256, 1, 0}, {257, 1, 1}, {65535, 2, 65535}, {65536, 2, 0}, {1<<32 - 1, 4, 1<<32 - 1}, {1 << 32, 4, 0},
		{math.MaxUint64, 1, 255}, {math.MaxUint64, 2, 65535}, {math.MaxUint64, 4, 1<<32 - 1}, {math.MaxUint64, 8, math.MaxUint64},
	} {
		if x := word.Low(c.x, c.size); x != c.want {
			t.Errorf("Low(%#x, %d) = %#x; want %#x", c.x, c.size, x, c.want)
		}
	}
	for _, size := range sizes {
		for _, x := range numbers() {
			if got, want := word.Low(x, size), lowOf(x, size).Uint64(); got != want {
				t.Errorf("Low(%#x, %d) = %#x; want %#x", x, size, got, want)
			}
		}
	}
}

func TestP11Of(t *testing.T) {
	for _, c := range []struct {
		x    uint64
		size int
		want string
	}{
		{258, 2, "\x02\x01"}, {258, 1, "\x02"}, {258, 4, "\x02\x01\x00\x00"}, {258, 8, "\x02\x01\x00\x00\x00\x00\x00\x00"},
		{0, 1, "\x00"}, {0, 8, "\x00\x00\x00\x00\x00\x00\x00\x00"}, {0x0102030405060708, 8, "\x08\x07\x06\x05\x04\x03\x02\x01"},
		{0xff00, 1, "\x00"}, {0xffff0000, 2, "\x00\x00"}, {0xffffffff00000001, 4, "\x01\x00\x00\x00"},
		{math.MaxUint64, 1, "\xff"}, {math.MaxUint64, 8, "\xff\xff\xff\xff\xff\xff\xff\xff"},
	} {
		if s := word.Of(c.x, c.size); s != c.want {
			t.Errorf("Of(%#x, %d) = %q; want %q", c.x, c.size, s, c.want)
		}
	}
	for _, size := range sizes {
		for _, x := range numbers() {
			if got, want := word.Of(x, size), bytesOf(x, size); got != want {
				t.Errorf("Of(%#x, %d) = %q; want %q", x, size, got, want)
			}
		}
	}
}

func TestNoSizes(t *testing.T) {
	for _, size := range noSizes {
		for _, x := range numbers() {
			if s, l, n := word.Of(x, size), word.Low(x, size), word.Sign(x, size); s != "" || l != 0 || n != 0 {
				t.Errorf("%#x of size %d: Of %q, Low %d, Sign %d", x, size, s, l, n)
			}
		}
	}
}

func TestP12SetOrdinary(t *testing.T) {
	for _, c := range []struct {
		s    string
		at   int
		x    uint64
		size int
		want string
	}{
		{"abcd", 1, 24930, 2, "abad"},
		{"abcd", 0, 'x', 1, "xbcd"},
		{"abcd", 3, 'x', 1, "abcx"},
		{"abcd", 2, 24930, 2, "abba"},
		{"abcd", 0, 0x7a797877, 4, "wxyz"},
		{"abcdefghij", 1, 0x3837363534333231, 8, "a12345678j"},
		{"abcd", 1, 0xffffffffffffff78, 1, "axcd"},
		{"abcd", 1, math.MaxUint64, 2, "a\xff\xffd"},
		{"\x00\x00\x00", 1, 0, 1, "\x00\x00\x00"},
	} {
		if s, e := word.Set(c.s, c.at, c.x, c.size); s != c.want || e != api.OK {
			t.Errorf("Set(%q, %d, %#x, %d) = %q, %v; want %q", c.s, c.at, c.x, c.size, s, e, c.want)
		}
	}
}

func TestP12SetWrong(t *testing.T) {
	for _, c := range wrong() {
		if s, e := word.Set("abcdefghij", c.at, 7, c.size); s != "" || e != c.want {
			t.Errorf("Set(s, %d, 7, %d) = %q, %v; want none, %v", c.at, c.size, s, e, c.want)
		}
	}
	for _, size := range sizes {
		if s, e := word.Set(strings.Repeat("a", size-1), 0, 7, size); s != "" || e != api.ErrShort {
			t.Errorf("a byte too short for %d: %q, %v", size, s, e)
		}
		if s, e := word.Set(strings.Repeat("a", size), 0, 7, size); s != bytesOf(7, size) || e != api.OK {
			t.Errorf("just long enough for %d: %q, %v", size, s, e)
		}
	}
}

func TestP12Sign(t *testing.T) {
	for _, c := range []struct {
		x    uint64
		size int
		want int64
	}{
		{255, 1, -1}, {128, 2, 128}, {0, 1, 0}, {127, 1, 127}, {128, 1, -128}, {256, 1, 0}, {0x17f, 1, 127}, {0x180, 1, -128},
		{0x7fff, 2, 32767}, {0x8000, 2, -32768}, {0xffff, 2, -1}, {0x18000, 2, -32768},
		{0x7fffffff, 4, math.MaxInt32}, {0x80000000, 4, math.MinInt32}, {0xffffffff, 4, -1}, {0xffffffff7fffffff, 4, math.MaxInt32},
		{math.MaxInt64, 8, math.MaxInt64}, {1 << 63, 8, math.MinInt64}, {math.MaxUint64, 8, -1}, {0x80000000, 8, 1 << 31},
	} {
		if n := word.Sign(c.x, c.size); n != c.want {
			t.Errorf("Sign(%#x, %d) = %d; want %d", c.x, c.size, n, c.want)
		}
	}
	for _, size := range sizes {
		for _, x := range numbers() {
			if got, want := word.Sign(x, size), signOf(x, size); got != want {
				t.Errorf("Sign(%#x, %d) = %d; want %d", x, size, got, want)
			}
		}
	}
}

func TestP13WhatWasSetIsGot(t *testing.T) {
	s := "the quick brown fox"
	for _, size := range sizes {
		for at := range len(s) - size + 1 {
			for _, x := range numbers() {
				u, e := word.Set(s, at, x, size)
				if e != api.OK || len(u) != len(s) || u[:at] != s[:at] || u[at+size:] != s[at+size:] {
					t.Fatalf("Set(%q, %d, %#x, %d) = %q, %v", s, at, x, size, u, e)
				}
				if y, e := word.Get(u, at, size); y != word.Low(x, size) || e != api.OK {
					t.Fatalf("%#x of size %d, set at %d, is got as %#x, %v", x, size, at, y, e)
				}
			}
			// What was there already changes nothing when it is set again.
			x, e := word.Get(s, at, size)
			if u, e1 := word.Set(s, at, x, size); u != s || e != api.OK || e1 != api.OK {
				t.Errorf("%q became %q, %v, %v", s, u, e, e1)
			}
		}
	}
}

func TestP13BytesAreItsOwn(t *testing.T) {
	for _, size := range sizes {
		for _, x := range numbers() {
			s := word.Of(x, size)
			if y, e := word.Get(s, 0, size); len(s) != size || y != word.Low(x, size) || e != api.OK {
				t.Errorf("Of(%#x, %d) = %q is got as %#x, %v", x, size, s, y, e)
			}
			if word.Of(word.Low(x, size), size) != s || word.Low(word.Low(x, size), size) != word.Low(x, size) {
				t.Errorf("Low of %#x, size %d, has other bytes", x, size)
			}
		}
	}
	// Every number of the lesser sizes has bytes that no other one has.
	for _, size := range []int{1, 2} {
		seen := map[string]uint64{}
		for x := range uint64(1) << (8 * size) {
			s := word.Of(x, size)
			if y, there := seen[s]; there {
				t.Fatalf("%d and %d have the same bytes %q", x, y, s)
			}
			seen[s] = x
		}
	}
}

func TestP13SignedHasTheSameBytes(t *testing.T) {
	for _, size := range sizes {
		for _, x := range numbers() {
			if n := word.Sign(x, size); word.Of(uint64(n), size) != word.Of(x, size) || word.Low(uint64(n), size) != word.Low(x, size) {
				t.Errorf("%#x of size %d has other bytes than %d", x, size, n)
			}
		}
	}
}
