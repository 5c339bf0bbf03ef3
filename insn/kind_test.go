package insn_test

import (
	"math"
	"testing"

	"warden/api"
	"warden/insn"
)

func checkKind(t *testing.T, i api.Insn, want uint8) {
	t.Helper()
	if k := insn.Kind(i); k != want {
		t.Errorf("Kind(%v), Op %#x, = %d; want %d", i, i.Op, k, want)
	}
}

func TestP72KindExamples(t *testing.T) {
	for _, c := range []struct {
		s    string
		kind uint8
		i    api.Insn
	}{
		{"\xb7\x01\x00\x00\x05\x00\x00\x00", api.InsnAlu, in(183, 1, 0, 0, 5)},
		{"\x79\x21\x08\x00\x00\x00\x00\x00", api.InsnLoad, in(121, 1, 2, 8, 0)},
		{"\x95\x00\x00\x00\x00\x00\x00\x00", api.InsnExit, in(149, 0, 0, 0, 0)},
		{"\x85\x00\x00\x00\x01\x00\x00\x00", api.InsnCall, in(133, 0, 0, 0, 1)},
		{"\xb7\x0a\x00\x00\x05\x00\x00\x00", api.InsnNone, in(183, 10, 0, 0, 5)},
	} {
		if i, e := insn.Decode(c.s); i != c.i || e != api.OK {
			t.Errorf("Decode(%q) = %v, %v", c.s, i, e)
		}
		checkKind(t, c.i, c.kind)
	}
}

func TestP72KindOrdinary(t *testing.T) {
	for _, c := range []struct {
		kind uint8
		l    []api.Insn
	}{
		{api.InsnAlu, []api.Insn{
			in(0x07, 9, 0, 0, 5), in(0x0f, 9, 10, 0, 0), in(0x04, 9, 0, 0, -5), in(0x0c, 9, 10, 0, 0),
			in(0xc7, 0, 0, 0, math.MaxInt32), in(0xcf, 0, 0, 0, 0), in(0xc4, 0, 0, 0, math.MinInt32), in(0xcc, 1, 1, 0, 0),
			in(0x37, 1, 0, 0, 0), in(0x97, 1, 0, 0, 0), in(0x87, 1, 0, 0, 0), in(0x84, 1, 0, 0, 0), in(0x84, 0, 0, 0, 0), in(0x87, 9, 0, 0, 0),
		}},
		{api.InsnLoad, []api.Insn{in(0x61, 9, 10, 8, 0), in(0x69, 1, 2, -8, 0), in(0x71, 0, 0, math.MaxInt16, 0), in(0x79, 1, 1, math.MinInt16, 0)}},
		{api.InsnSt, []api.Insn{in(0x62, 10, 0, -8, 5), in(0x6a, 1, 0, 8, -5), in(0x72, 0, 0, math.MaxInt16, math.MinInt32), in(0x7a, 9, 0, math.MinInt16, math.MaxInt32)}},
		{api.InsnStx, []api.Insn{in(0x63, 10, 10, -8, 0), in(0x6b, 1, 2, 8, 0), in(0x73, 0, 0, math.MaxInt16, 0), in(0x7b, 10, 1, math.MinInt16, 0)}},
		{api.InsnGo, []api.Insn{in(0x05, 0, 0, 0, 0), in(0x05, 0, 0, -1, 0), in(0x05, 0, 0, math.MaxInt16, 0), in(0x05, 0, 0, math.MinInt16, 0)}},
		{api.InsnJump, []api.Insn{
			in(0x15, 10, 0, 3, 5), in(0x1d, 10, 10, 3, 0), in(0x16, 10, 0, -3, -5), in(0x1e, 0, 10, -3, 0),
			in(0xd5, 0, 0, math.MinInt16, math.MinInt32), in(0xdd, 1, 2, math.MaxInt16, 0), in(0xd6, 1, 0, 0, math.MaxInt32), in(0xde, 1, 2, 0, 0),
		}},
		{api.InsnCall, []api.Insn{in(0x85, 0, 0, 0, 17), in(0x85, 0, 0, 0, 0), in(0x85, 0, 0, 0, math.MinInt32), in(0x85, 0, 0, 0, math.MaxInt32)}},
		{api.InsnSub, []api.Insn{in(0x85, 0, 1, 0, 17), in(0x85, 0, 1, 0, 0), in(0x85, 0, 1, 0, math.MinInt32), in(0x85, 0, 1, 0, math.MaxInt32)}},
		{api.InsnExit, []api.Insn{in(0x95, 0, 0, 0, 0)}},
		{api.InsnWide, []api.Insn{in(0x18, 0, 0, 0, 0), in(0x18, 9, 0, 0, -1), in(0x18, 1, 1, 0, math.MaxInt32), in(0x18, 1, 2, 0, math.MinInt32)}},
	} {
		for _, i := range c.l {
			checkKind(t, i, c.kind)
		}
	}
}

func TestP72KindUnused(t *testing.T) {
	for _, i := range []api.Insn{
		in(0x07, 1, 1, 0, 5), in(0x07, 1, 0, 1, 5), in(0x0f, 1, 2, -1, 0), in(0x0f, 1, 2, 0, 1), in(0x0c, 1, 2, 0, -1), in(0xbf, 1, 2, 0, 1), in(0xb4, 1, 10, 0, 5),
		in(0x87, 1, 2, 0, 0), in(0x87, 1, 0, 0, 1), in(0x84, 1, 0, 0, -1), in(0x84, 1, 10, 0, 0), in(0x87, 1, 0, 1, 0), in(0x84, 1, 0, -1, 0),
		in(0x79, 1, 2, 8, 1), in(0x61, 1, 2, 8, math.MinInt32),
		in(0x7a, 1, 2, 8, 5), in(0x62, 10, 10, 8, 5),
		in(0x7b, 1, 2, 8, 1), in(0x63, 1, 2, 8, -1),
		in(0x05, 1, 0, 8, 0), in(0x05, 0, 1, 8, 0), in(0x05, 0, 0, 8, 1),
		in(0x15, 1, 1, 8, 5), in(0x1d, 1, 2, 8, 5), in(0x16, 1, 10, 8, 5), in(0x1e, 1, 2, 8, -5), in(0x85, 1, 0, 0, 1), in(0x85, 10, 0, 0, 1), in(0x85, 0, 0, 1, 1),
		in(0x85, 1, 1, 0, 1), in(0x85, 0, 1, -1, 1),
		in(0x95, 1, 0, 0, 0), in(0x95, 0, 1, 0, 0), in(0x95, 0, 0, 1, 0), in(0x95, 0, 0, 0, 1),
		in(0x18, 1, 0, 1, 5), in(0x18, 1, 1, -1, 5), in(0x18, 1, 2, math.MinInt16, 5),
	} {
		checkKind(t, i, api.InsnNone)
	}
}

func TestP72KindRegisters(t *testing.T) {
	for _, c := range []struct {
		i    api.Insn
		kind uint8
		fp   bool // whether Dst may be RegFp
		src  bool // whether Src is any register
	}{
		{in(0x07, 0, 0, 0, 5), api.InsnAlu, false, false},
		{in(0xb4, 0, 0, 0, 5), api.InsnAlu, false, false},
		{in(0x87, 0, 0, 0, 0), api.InsnAlu, false, false},
		{in(0x0f, 0, 0, 0, 0), api.InsnAlu, false, true},
		{in(0xbc, 0, 0, 0, 0), api.InsnAlu, false, true},
		{in(0x79, 0, 0, 8, 0), api.InsnLoad, false, true},
		{in(0x7a, 0, 0, 8, 5), api.InsnSt, true, false},
		{in(0x7b, 0, 0, 8, 0), api.InsnStx, true, true},
		{in(0x15, 0, 0, 8, 5), api.InsnJump, true, false},
		{in(0x16, 0, 0, 8, 5), api.InsnJump, true, false},
		{in(0x1d, 0, 0, 8, 0), api.InsnJump, true, true},
		{in(0x1e, 0, 0, 8, 0), api.InsnJump, true, true},
		{in(0x18, 0, 0, 0, 5), api.InsnWide, false, false},
	} {
		for n := range 256 {
			want := api.InsnNone
			if n < 10 || n == 10 && c.fp {
				want = c.kind
			}
			i := c.i
			i.Dst = uint8(n)
			checkKind(t, i, want)
			if !c.src {
				continue
			}
			want = api.InsnNone
			if n < 11 {
				want = c.kind
			}
			i = c.i
			i.Src = uint8(n)
			checkKind(t, i, want)
		}
	}
}

func TestP72KindSorts(t *testing.T) {
	for src := range 256 {
		call, wide := api.InsnNone, api.InsnNone
		switch src {
		case 0:
			call = api.InsnCall
		case 1:
			call = api.InsnSub
		}
		if src < 3 {
			wide = api.InsnWide
		}
		checkKind(t, in(0x85, 0, uint8(src), 0, 1), call)
		checkKind(t, in(0x18, 1, uint8(src), 0, 1), wide)
	}
}

func TestP72KindWrongOps(t *testing.T) {
	ops := []uint8{
		0x00, 0x08, 0x10, 0x20, 0x30, 0x38, 0x58, 0x98, 0x78, 0x60, 0xf8, // class Ld: but OpWide
		0xd4, 0xdc, 0xe4, 0xec, 0xf4, 0xfc, 0xd7, 0xdf, 0xe7, 0xef, 0xf7, 0xff, // codes that reckon nothing
		0x8c, 0x8f, // AluNeg with BitX
		0xe5, 0xed, 0xf5, 0xfd, 0xe6, 0xee, 0xf6, 0xfe, // codes that ask nothing
		0x0d, 0x06, 0x0e, // always, with BitX, or of 32 bits
		0x8d, 0x86, 0x8e, // calls likewise
		0x9d, 0x96, 0x9e, // ends likewise
	}
	for _, mode := range []uint8{0x00, 0x20, 0x40, 0x80, 0xa0, 0xc0, 0xe0} {
		for size := range uint8(4) {
			for class := api.ClassLdx; class <= api.ClassStx; class++ {
				ops = append(ops, mode|size<<3|class)
			}
		}
	}
	for _, op := range ops {
		for _, i := range []api.Insn{in(op, 0, 0, 0, 0), in(op, 1, 0, 0, 0), in(op, 1, 2, 0, 0), in(op, 1, 2, 8, 0), in(op, 0, 0, 8, 0), in(op, 1, 0, 8, 5), in(op, 0, 0, 0, 1), in(op, 0, 1, 0, 1), in(op, 1, 0, 0, 5)} {
			checkKind(t, i, api.InsnNone)
		}
	}
}

func TestP72NegHasNoSecondNumber(t *testing.T) {
	for _, class := range []uint8{api.ClassAlu, api.ClassAlu64} {
		op := api.AluNeg<<4 | class
		for n := range 256 {
			for dst := range uint8(api.Regs) {
				i := in(op|api.BitX, dst, uint8(n), 0, 0)
				checkKind(t, i, api.InsnNone)
				r, is := insn.Writes(i)
				if l := insn.Reads(i); len(l) != 0 || is || r != 0 || insn.Wide(i) || insn.Size(i) != 0 {
					t.Errorf("%v, Op %#x: reads %v, writes %d, %v, wide %v, size %d", i, i.Op, l, r, is, insn.Wide(i), insn.Size(i))
				}
			}
			want := api.InsnNone
			if n == 0 {
				want = api.InsnAlu
			}
			checkKind(t, in(op, 1, uint8(n), 0, 0), want)
			checkKind(t, in(op, 1, 0, int16(n), 0), want)
			checkKind(t, in(op, 1, 0, 0, int32(n)), want)
		}
	}
}
