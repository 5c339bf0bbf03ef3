package code_test

import (
	"math"
	"slices"
	"strings"
	"testing"

	"warden/api"
	"warden/code"
)

// in makes an instruction in one row of a table.
func in(op, dst, src uint8, off int16, imm int32) api.Insn {
	return api.Insn{Op: op, Dst: dst, Src: src, Off: off, Imm: imm}
}

// The instructions of which the tests put programs together, by their Ops.
func mov() api.Insn             { return in(0xb7, 0, 0, 0, 0) }
func exit() api.Insn            { return in(0x95, 0, 0, 0, 0) }
func goes(off int16) api.Insn   { return in(0x05, 0, 0, off, 0) }
func jump(off int16) api.Insn   { return in(0x15, 1, 0, off, 7) }
func call(imm int32) api.Insn   { return in(0x85, 0, 0, 0, imm) }
func sub(imm int32) api.Insn    { return in(0x85, 0, 1, 0, imm) }
func wide(imm int32) api.Insn   { return in(0x18, 1, 0, 0, imm) }
func mapped(imm int32) api.Insn { return in(0x18, 1, 1, 0, imm) }
func fun(imm int32) api.Insn    { return in(0x18, 1, 2, 0, imm) }
func second(imm int32) api.Insn { return in(0, 0, 0, 0, imm) }
func none() api.Insn            { return in(0xff, 0, 0, 0, 0) }

// written has the bytes of programs, reckoned by hand.
var written = []struct {
	s string
	l []api.Insn
}{
	{"", nil},
	{"\xb7\x00\x00\x00\x00\x00\x00\x00\x95\x00\x00\x00\x00\x00\x00\x00", []api.Insn{mov(), exit()}},
	{"\x95\x00\x00\x00\x00\x00\x00\x00\xb7\x00\x00\x00\x00\x00\x00\x00", []api.Insn{exit(), mov()}},
	{"\x18\x01\x00\x00\xff\xff\xff\xff\x00\x00\x00\x00\x01\x00\x00\x00", []api.Insn{wide(-1), second(1)}},
	{"\x79\x21\x08\x00\x00\x00\x00\x00\x05\x00\xfe\xff\x00\x00\x00\x00", []api.Insn{in(0x79, 1, 2, 8, 0), goes(-2)}},
	{"\x85\x10\x00\x00\xfe\xff\xff\xff", []api.Insn{sub(-2)}},
	{"\x00\x00\x00\x00\x00\x00\x00\x00\xff\xff\xff\xff\xff\xff\xff\xff\x00\x00\x00\x00\x00\x00\x00\x00", []api.Insn{{}, in(255, 15, 15, -1, -1), {}}},
	{"ABCDEFGHabcdefgh", []api.Insn{in(0x41, 2, 4, 0x4443, 0x48474645), in(0x61, 2, 6, 0x6463, 0x68676665)}},
}

func TestP81Encode(t *testing.T) {
	for _, c := range written {
		if s := code.Encode(c.l); s != c.s {
			t.Errorf("Encode(%v) = %q; want %q", c.l, s, c.s)
		}
	}
	if s := code.Encode([]api.Insn{}); s != "" {
		t.Errorf("no slots: %q", s)
	}
	if s := code.Encode([]api.Insn{in(1, 0x12, 0x23, 0, 0), in(1, 2, 3, 0, 0)}); s != "\x01\x32\x00\x00\x00\x00\x00\x00\x01\x32\x00\x00\x00\x00\x00\x00" {
		t.Errorf("of Dst and Src more than half a byte is written: %q", s)
	}
}

func TestP81EncodeHasNoBound(t *testing.T) {
	for _, n := range []int{api.MaxInsns, api.MaxInsns + 1, 3 * api.MaxInsns} {
		if s := code.Encode(slices.Repeat([]api.Insn{exit()}, n)); s != strings.Repeat("\x95\x00\x00\x00\x00\x00\x00\x00", n) {
			t.Errorf("%d slots are written as %d bytes", n, len(s))
		}
	}
}

func TestP81Decode(t *testing.T) {
	for _, c := range written {
		if l, e := code.Decode(c.s); !slices.Equal(l, c.l) || e != api.OK {
			t.Errorf("Decode(%q) = %v, %v; want %v", c.s, l, e, c.l)
		}
	}
}

func TestP81DecodeErrors(t *testing.T) {
	for _, c := range []struct {
		bytes int
		e     api.Errno
	}{
		{0, api.OK},
		{1, api.ErrForm},
		{4, api.ErrForm},
		{7, api.ErrForm},
		{8, api.OK},
		{9, api.ErrForm},
		{12, api.ErrForm},
		{15, api.ErrForm},
		{16, api.OK},
		{8*1024 - 8, api.OK},
		{8*1024 - 1, api.ErrForm},
		{8 * 1024, api.OK},
		{8*1024 + 1, api.ErrForm},
		{8*1024 + 7, api.ErrForm},
		{8*1024 + 8, api.ErrLong},
		{8*1024 + 9, api.ErrForm},
		{8*1024 + 16, api.ErrLong},
		{1 << 20, api.ErrLong},
		{1<<20 + 4, api.ErrForm},
	} {
		l, e := code.Decode(strings.Repeat("\x95", c.bytes))
		if e != c.e || e != api.OK && len(l) != 0 || e == api.OK && len(l) != c.bytes/8 {
			t.Errorf("%d bytes: %d slots, %v; want %v", c.bytes, len(l), e, c.e)
		}
	}
}

func TestP81WrittenIsRead(t *testing.T) {
	l := []api.Insn{}
	for n := range api.MaxInsns {
		l = append(l, in(uint8(n), uint8(n%16), uint8(n/16%16), int16(n*77), int32(n*-1234567)))
		back, e := code.Decode(code.Encode(l))
		if !slices.Equal(back, l) || e != api.OK {
			t.Fatalf("%d slots are read as %d, %v", len(l), len(back), e)
		}
	}
}

func TestP81Number(t *testing.T) {
	for _, c := range []struct {
		l  []api.Insn
		at int
		n  uint64
	}{
		{[]api.Insn{wide(5), second(0), exit()}, 0, 5},
		{[]api.Insn{wide(0), second(1), exit()}, 0, 1 << 32},
		{[]api.Insn{wide(-1), second(1), exit()}, 0, 1<<33 - 1},
		{[]api.Insn{wide(1), second(-1), exit()}, 0, 0xffffffff_00000001},
		{[]api.Insn{wide(-1), second(0)}, 0, 1<<32 - 1},
		{[]api.Insn{wide(0), second(-1)}, 0, 0xffffffff_00000000},
		{[]api.Insn{wide(-1), second(-1)}, 0, math.MaxUint64},
		{[]api.Insn{wide(math.MinInt32), second(math.MinInt32)}, 0, 1<<63 + 1<<31},
		{[]api.Insn{wide(math.MaxInt32), second(math.MaxInt32)}, 0, 0x7fffffff_7fffffff},
		{[]api.Insn{wide(0x55667788), second(0x11223344)}, 0, 0x11223344_55667788},
		{[]api.Insn{mov(), mapped(3), second(0), exit()}, 1, 3},
		{[]api.Insn{mov(), fun(-3), second(0), exit()}, 1, 1<<32 - 3},
		{[]api.Insn{mov(), fun(3), second(2), exit()}, 1, 2<<32 + 3},
		// Of the second slot it is asked only that it is there.
		{[]api.Insn{wide(5), in(0xb7, 1, 2, 3, 4), exit()}, 0, 4<<32 + 5},
		{[]api.Insn{wide(5), wide(6), second(7)}, 0, 6<<32 + 5},
		{[]api.Insn{wide(5), wide(6), second(7)}, 1, 7<<32 + 6},
		// It is not there.
		{[]api.Insn{wide(5)}, 0, 0},
		{[]api.Insn{exit(), wide(5)}, 1, 0},
		// Others.
		{[]api.Insn{wide(5), second(6), exit()}, 1, 0},
		{[]api.Insn{wide(5), second(6), exit()}, 2, 0},
		{[]api.Insn{wide(5), second(6)}, 2, 0},
		{[]api.Insn{wide(5), second(6)}, 3, 0},
		{[]api.Insn{wide(5), second(6)}, -1, 0},
		{[]api.Insn{wide(5), second(6)}, -2, 0},
		{[]api.Insn{wide(5), second(6)}, math.MaxInt, 0},
		{[]api.Insn{wide(5), second(6)}, math.MinInt, 0},
		{nil, 0, 0},
		{[]api.Insn{in(0xb7, 1, 0, 0, 5), second(6)}, 0, 0},
		{[]api.Insn{call(5), second(6)}, 0, 0},
		{[]api.Insn{sub(5), second(6)}, 0, 0},
		{[]api.Insn{none(), second(6)}, 0, 0},
		// OpWide that is no instruction: no such Src, RegFp, an Off.
		{[]api.Insn{in(0x18, 1, 3, 0, 5), second(6)}, 0, 0},
		{[]api.Insn{in(0x18, 10, 0, 0, 5), second(6)}, 0, 0},
		{[]api.Insn{in(0x18, 1, 0, 1, 5), second(6)}, 0, 0},
	} {
		if n := code.Number(c.l, c.at); n != c.n {
			t.Errorf("Number(%v, %d) = %#x; want %#x", c.l, c.at, n, c.n)
		}
	}
}
