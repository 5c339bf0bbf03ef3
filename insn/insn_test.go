package insn_test

import (
	"math"
	"slices"
	"strings"
	"testing"

	"warden/api"
	"warden/insn"
)

// in makes an instruction in one row of a table.
func in(op, dst, src uint8, off int16, imm int32) api.Insn {
	return api.Insn{Op: op, Dst: dst, Src: src, Off: off, Imm: imm}
}

// written has the bytes of instructions, reckoned by hand.
var written = []struct {
	s string
	i api.Insn
}{
	{"\xb7\x01\x00\x00\x05\x00\x00\x00", in(0xb7, 1, 0, 0, 5)},
	{"\x79\x21\x08\x00\x00\x00\x00\x00", in(0x79, 1, 2, 8, 0)},
	{"\x95\x00\x00\x00\x00\x00\x00\x00", in(0x95, 0, 0, 0, 0)},
	{"\x85\x00\x00\x00\x01\x00\x00\x00", in(0x85, 0, 0, 0, 1)},
	{"\xb7\x0a\x00\x00\x05\x00\x00\x00", in(0xb7, 10, 0, 0, 5)},
	{"\x00\x00\x00\x00\x00\x00\x00\x00", in(0, 0, 0, 0, 0)},
	{"\xff\xff\xff\xff\xff\xff\xff\xff", in(255, 15, 15, -1, -1)},
	{"\x01\x32\x05\x04\x09\x08\x07\x06", in(1, 2, 3, 0x0405, 0x06070809)},
	{"\x80\xf0\x00\x80\x00\x00\x00\x80", in(0x80, 0, 15, math.MinInt16, math.MinInt32)},
	{"\x80\x0f\xff\x7f\xff\xff\xff\x7f", in(0x80, 15, 0, math.MaxInt16, math.MaxInt32)},
	{"\x05\x00\xfe\xff\x00\x00\x00\x00", in(5, 0, 0, -2, 0)},
	{"\x05\x00\x00\x00\xfe\xff\xff\xff", in(5, 0, 0, 0, -2)},
	{"\x05\x00\xff\x00\xff\x00\x00\x00", in(5, 0, 0, 255, 255)},
	{"\x05\x00\x80\x00\x80\x80\x80\x00", in(5, 0, 0, 128, 0x808080)},
	{"\x62\xab\x01\xff\x00\xff\x00\xff", in(0x62, 11, 10, -255, -0xff0100)},
	{"ABCDEFGH", in(0x41, 2, 4, 0x4443, 0x48474645)},
}

func TestP71Encode(t *testing.T) {
	for _, c := range written {
		if s := insn.Encode(c.i); s != c.s {
			t.Errorf("Encode(%v) = %q; want %q", c.i, s, c.s)
		}
	}
}

func TestP71EncodeRegistersModulo(t *testing.T) {
	for dst := range 256 {
		for src := range 256 {
			i := in(7, uint8(dst), uint8(src), 0x0102, 0x03040506)
			want := "\x07" + string([]byte{byte(dst%16 + src%16*16)}) + "\x02\x01\x06\x05\x04\x03"
			if s := insn.Encode(i); s != want {
				t.Errorf("Encode(%v) = %q; want %q", i, s, want)
			}
		}
	}
}

func TestP71Decode(t *testing.T) {
	for _, c := range written {
		if i, e := insn.Decode(c.s); i != c.i || e != api.OK {
			t.Errorf("Decode(%q) = %v, %v; want %v", c.s, i, e, c.i)
		}
	}
}

func TestP71DecodeWrongLengths(t *testing.T) {
	for _, of := range []string{"\x00", "\x01", "\xb7", "\xff"} {
		for n := range 40 {
			want := api.OK
			if n < 8 {
				want = api.ErrShort
			} else if n > 8 {
				want = api.ErrLong
			}
			i, e := insn.Decode(strings.Repeat(of, n))
			if e != want || e != api.OK && i != (api.Insn{}) {
				t.Errorf("Decode of %d times %q = %v, %v; want %v", n, of, i, e, want)
			}
		}
	}
	if i, e := insn.Decode(strings.Repeat(written[0].s, 1000)); e != api.ErrLong || i != (api.Insn{}) {
		t.Error(i, e)
	}
}

func TestP72Code(t *testing.T) {
	for op := range 256 {
		// Also of what is no instruction, whatever else it has.
		for _, i := range []api.Insn{in(uint8(op), 0, 0, 0, 0), in(uint8(op), 1, 2, 0, 0), in(uint8(op), 255, 255, -1, -1)} {
			if c := insn.Code(i); int(c) != op/16 {
				t.Errorf("Code(%v) = %d; want %d", i, c, op/16)
			}
		}
	}
}

func TestP72Size(t *testing.T) {
	for _, c := range []struct {
		i    api.Insn
		size int
	}{
		{in(0x61, 1, 2, 8, 0), 4}, {in(0x69, 1, 2, 8, 0), 2}, {in(0x71, 1, 2, 8, 0), 1}, {in(0x79, 1, 2, 8, 0), 8},
		{in(0x62, 1, 0, 8, 7), 4}, {in(0x6a, 1, 0, 8, 7), 2}, {in(0x72, 1, 0, 8, 7), 1}, {in(0x7a, 1, 0, 8, 7), 8},
		{in(0x63, 1, 2, 8, 0), 4}, {in(0x6b, 1, 2, 8, 0), 2}, {in(0x73, 1, 2, 8, 0), 1}, {in(0x7b, 1, 2, 8, 0), 8},
		// They look like those, and are no instructions.
		{in(0x79, 10, 2, 8, 0), 0}, {in(0x79, 11, 2, 8, 0), 0}, {in(0x79, 1, 11, 8, 0), 0}, {in(0x79, 1, 2, 8, 1), 0},
		{in(0x7a, 1, 1, 8, 7), 0}, {in(0x7b, 1, 2, 8, 1), 0}, {in(0x59, 1, 2, 8, 0), 0}, {in(0x99, 1, 2, 8, 0), 0}, {in(0x19, 1, 2, 8, 0), 0},
		{in(0x18, 1, 0, 0, 7), 0}, {in(0xb7, 1, 0, 0, 5), 0}, {in(0x7f, 1, 2, 0, 0), 0}, {in(0x7d, 1, 2, 8, 0), 0}, {in(0x95, 0, 0, 0, 0), 0},
	} {
		if n := insn.Size(c.i); n != c.size {
			t.Errorf("Size(%v) = %d; want %d", c.i, n, c.size)
		}
	}
}

func TestP72Wide(t *testing.T) {
	for _, c := range []struct {
		i    api.Insn
		wide bool
	}{
		{in(0xb7, 1, 0, 0, 5), true}, {in(0xb4, 1, 0, 0, 5), false}, {in(0xbf, 1, 2, 0, 0), true}, {in(0xbc, 1, 2, 0, 0), false},
		{in(0x87, 1, 0, 0, 0), true}, {in(0x84, 1, 0, 0, 0), false},
		{in(0x15, 1, 0, 3, 5), true}, {in(0x16, 1, 0, 3, 5), false}, {in(0x1d, 1, 2, 3, 0), true}, {in(0x1e, 1, 2, 3, 0), false},
		// Neither reckons nor asks, though its class, or its size, is a wide one's.
		{in(0x05, 0, 0, 3, 0), false}, {in(0x85, 0, 0, 0, 1), false}, {in(0x85, 0, 1, 0, 1), false}, {in(0x95, 0, 0, 0, 0), false},
		{in(0x18, 1, 0, 0, 5), false}, {in(0x79, 1, 2, 8, 0), false}, {in(0x7a, 1, 0, 8, 0), false}, {in(0x7b, 1, 2, 8, 0), false},
		// No instructions.
		{in(0xb7, 10, 0, 0, 5), false}, {in(0xb7, 1, 0, 1, 5), false}, {in(0xd7, 1, 0, 0, 5), false}, {in(0x8f, 1, 0, 0, 0), false}, {in(0x8f, 1, 2, 0, 0), false}, {in(0x15, 11, 0, 3, 5), false}, {in(0xe5, 1, 0, 3, 5), false},
	} {
		if w := insn.Wide(c.i); w != c.wide {
			t.Errorf("Wide(%v) = %v", c.i, w)
		}
	}
}

// touched has, for instructions, what they read and write.
var touched = []struct {
	i      api.Insn
	reads  []uint8
	writes int // -1: none
}{
	// Two numbers, or one, or none of what was there.
	{in(0x07, 3, 0, 0, 5), []uint8{3}, 3},
	{in(0x04, 3, 0, 0, 5), []uint8{3}, 3},
	{in(0x0f, 3, 4, 0, 0), []uint8{3, 4}, 3},
	{in(0x0c, 3, 4, 0, 0), []uint8{3, 4}, 3},
	{in(0x0f, 4, 3, 0, 0), []uint8{3, 4}, 4},
	{in(0x0f, 3, 3, 0, 0), []uint8{3}, 3},
	{in(0x0f, 0, 0, 0, 0), []uint8{0}, 0},
	{in(0x0f, 9, 10, 0, 0), []uint8{9, 10}, 9},
	{in(0xcf, 9, 0, 0, 0), []uint8{0, 9}, 9},
	{in(0xb7, 3, 0, 0, 5), nil, 3},
	{in(0xb4, 3, 0, 0, 5), nil, 3},
	{in(0xbf, 3, 4, 0, 0), []uint8{4}, 3},
	{in(0xbc, 3, 4, 0, 0), []uint8{4}, 3},
	{in(0xbf, 3, 3, 0, 0), []uint8{3}, 3},
	{in(0xbf, 3, 0, 0, 0), []uint8{0}, 3},
	{in(0xbf, 3, 10, 0, 0), []uint8{10}, 3},
	{in(0x87, 3, 0, 0, 0), []uint8{3}, 3},
	{in(0x84, 3, 0, 0, 0), []uint8{3}, 3},
	// Loads and stores.
	{in(0x79, 1, 2, 8, 0), []uint8{2}, 1},
	{in(0x71, 2, 2, 8, 0), []uint8{2}, 2},
	{in(0x61, 0, 10, -8, 0), []uint8{10}, 0},
	{in(0x7a, 1, 0, 8, 5), []uint8{1}, -1},
	{in(0x72, 10, 0, -8, 5), []uint8{10}, -1},
	{in(0x7b, 1, 2, 8, 0), []uint8{1, 2}, -1},
	{in(0x7b, 2, 1, 8, 0), []uint8{1, 2}, -1},
	{in(0x7b, 2, 2, 8, 0), []uint8{2}, -1},
	{in(0x63, 10, 0, -8, 0), []uint8{0, 10}, -1},
	{in(0x6b, 0, 10, -8, 0), []uint8{0, 10}, -1},
	// Jumps. The code of AluMov is the one of JmpLe, which reads both.
	{in(0x05, 0, 0, 8, 0), nil, -1},
	{in(0x15, 1, 0, 8, 5), []uint8{1}, -1},
	{in(0x16, 1, 0, 8, 5), []uint8{1}, -1},
	{in(0x1d, 1, 2, 8, 0), []uint8{1, 2}, -1},
	{in(0x1e, 2, 1, 8, 0), []uint8{1, 2}, -1},
	{in(0x1d, 2, 2, 8, 0), []uint8{2}, -1},
	{in(0xb5, 1, 0, 8, 5), []uint8{1}, -1},
	{in(0xbd, 1, 2, 8, 0), []uint8{1, 2}, -1},
	{in(0xb6, 1, 0, 8, 5), []uint8{1}, -1},
	{in(0xbe, 10, 9, 8, 0), []uint8{9, 10}, -1},
	// Calls, the end, wide ones.
	{in(0x85, 0, 0, 0, 1), nil, 0},
	{in(0x85, 0, 1, 0, -1), nil, 0},
	{in(0x95, 0, 0, 0, 0), []uint8{0}, -1},
	{in(0x18, 5, 0, 0, 7), nil, 5},
	{in(0x18, 5, 1, 0, 7), nil, 5},
	{in(0x18, 5, 2, 0, 7), nil, 5},
	{in(0x18, 0, 2, 0, 7), nil, 0},
	// No instructions.
	{in(0x00, 0, 0, 0, 0), nil, -1},
	{in(0x00, 1, 2, 3, 4), nil, -1},
	{in(0xb7, 10, 0, 0, 5), nil, -1},
	{in(0x0f, 10, 1, 0, 0), nil, -1},
	{in(0x0f, 11, 1, 0, 0), nil, -1},
	{in(0x0f, 1, 11, 0, 0), nil, -1},
	{in(0x0f, 17, 1, 0, 0), nil, -1},
	{in(0x0f, 1, 17, 0, 0), nil, -1},
	{in(0x0f, 1, 2, 0, 1), nil, -1},
	{in(0x8f, 3, 0, 0, 0), nil, -1},
	{in(0x8f, 3, 2, 0, 0), nil, -1},
	{in(0x8c, 3, 0, 0, 0), nil, -1},
	{in(0x8c, 3, 3, 0, 0), nil, -1},
	{in(0x79, 10, 2, 8, 0), nil, -1},
	{in(0x7b, 1, 2, 8, 1), nil, -1},
	{in(0x18, 10, 0, 0, 7), nil, -1},
	{in(0x18, 5, 3, 0, 7), nil, -1},
	{in(0x85, 0, 2, 0, 1), nil, -1},
	{in(0x95, 1, 0, 0, 0), nil, -1},
	{in(0x1d, 1, 2, 8, 1), nil, -1},
}

func TestP73Reads(t *testing.T) {
	for _, c := range touched {
		if l := insn.Reads(c.i); !slices.Equal(l, c.reads) {
			t.Errorf("Reads(%v) = %v; want %v", c.i, l, c.reads)
		}
	}
}

func TestP73ReadsAnew(t *testing.T) {
	for _, c := range touched {
		l := insn.Reads(c.i)
		for n := range l {
			l[n] = 99
		}
		if again := insn.Reads(c.i); !slices.Equal(again, c.reads) {
			t.Errorf("Reads(%v), asked again, = %v; want %v", c.i, again, c.reads)
		}
	}
}

func TestP73Writes(t *testing.T) {
	for _, c := range touched {
		want, writes := uint8(0), c.writes >= 0
		if writes {
			want = uint8(c.writes)
		}
		if r, is := insn.Writes(c.i); r != want || is != writes {
			t.Errorf("Writes(%v) = %d, %v; want %d, %v", c.i, r, is, want, writes)
		}
	}
}
