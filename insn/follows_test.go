package insn_test

import (
	"math"
	"slices"
	"strings"
	"testing"

	"warden/api"
	"warden/insn"
)

// row is one of the chapter's table, for one Op: what is used is told by letters (d, s, o, i), what else holds by the rest.
type row struct {
	kind  uint8
	used  string
	size  int
	wide  bool
	sorts map[uint8]uint8 // of calls and wide ones: which kind each Src is
}

// rows writes the chapter's table out, Op by Op.
func rows() map[uint8]row {
	m := map[uint8]row{}
	for code := uint8(0); code <= 0xc; code++ {
		for _, class := range []uint8{4, 7} {
			m[16*code+class] = row{kind: api.InsnAlu, used: "di", wide: class == 7}
			m[16*code+8+class] = row{kind: api.InsnAlu, used: "ds", wide: class == 7}
		}
	}
	m[0x84] = row{kind: api.InsnAlu, used: "d"}
	m[0x87] = row{kind: api.InsnAlu, used: "d", wide: true}
	// AluNeg has no second number: with BitX it is none of the table.
	delete(m, 0x8c)
	delete(m, 0x8f)
	for n, size := range []int{4, 2, 1, 8} {
		op := uint8(0x60 + 8*n)
		m[op+1] = row{kind: api.InsnLoad, used: "dso", size: size}
		m[op+2] = row{kind: api.InsnSt, used: "doi", size: size}
		m[op+3] = row{kind: api.InsnStx, used: "dso", size: size}
	}
	for _, code := range []uint8{1, 2, 3, 4, 5, 6, 7, 0xa, 0xb, 0xc, 0xd} {
		for _, class := range []uint8{5, 6} {
			m[16*code+class] = row{kind: api.InsnJump, used: "doi", wide: class == 5}
			m[16*code+8+class] = row{kind: api.InsnJump, used: "dso", wide: class == 5}
		}
	}
	m[0x05] = row{kind: api.InsnGo, used: "o"}
	m[0x85] = row{used: "si", sorts: map[uint8]uint8{0: api.InsnCall, 1: api.InsnSub}}
	m[0x95] = row{kind: api.InsnExit}
	m[0x18] = row{used: "dsi", sorts: map[uint8]uint8{0: api.InsnWide, 1: api.InsnWide, 2: api.InsnWide}}
	return m
}

// told answers what the rows tell of an instruction.
func told(m map[uint8]row, i api.Insn) row {
	r, known := m[i.Op]
	fits := func(letter string, zero bool) bool { return zero || strings.Contains(r.used, letter) }
	if !known || i.Dst > 10 || i.Src > 10 || !fits("d", i.Dst == 0) || !fits("s", i.Src == 0) || !fits("o", i.Off == 0) || !fits("i", i.Imm == 0) {
		return row{}
	}
	if r.sorts != nil {
		r.kind = r.sorts[i.Src]
	}
	if writes := r.kind == api.InsnAlu || r.kind == api.InsnLoad || r.kind == api.InsnWide; r.kind == api.InsnNone || writes && i.Dst == 10 {
		return row{}
	}
	return r
}

// eachInsn goes through instructions of all Ops, with what is at the edges of all else.
func eachInsn(do func(i api.Insn)) {
	registers := []uint8{0, 1, 2, 3, 9, 10, 11, 15, 16, 26, 255}
	for op := range 256 {
		for _, dst := range registers {
			for _, src := range registers {
				for _, off := range []int16{0, 1, -1, 256, math.MinInt16, math.MaxInt16} {
					for _, imm := range []int32{0, 1, -1, 1 << 16, math.MinInt32, math.MaxInt32} {
						do(in(uint8(op), dst, src, off, imm))
					}
				}
			}
		}
	}
}

func TestP72AsTheTable(t *testing.T) {
	m := rows()
	if len(m) != 2*25+12+2*22+4 {
		t.Fatal(len(m))
	}
	seen := map[uint8]int{}
	eachInsn(func(i api.Insn) {
		want := told(m, i)
		seen[want.kind]++
		if k, n, w := insn.Kind(i), insn.Size(i), insn.Wide(i); k != want.kind || n != want.size || w != want.wide {
			t.Errorf("%v, Op %#x: kind %d, size %d, wide %v; want %d, %d, %v", i, i.Op, k, n, w, want.kind, want.size, want.wide)
		}
	})
	if len(seen) != 11 {
		t.Errorf("kinds that were seen: %v", seen)
	}
}

// touches answers, by the chapter's words, which registers are read, and which is written (-1: none).
func touches(r row, i api.Insn) ([]uint8, int) {
	set := map[uint8]struct{}{}
	writes := -1
	switch r.kind {
	case api.InsnAlu:
		if i.Op/16 != api.AluMov {
			set[i.Dst] = struct{}{}
		}
		if strings.Contains(r.used, "s") {
			set[i.Src] = struct{}{}
		}
		writes = int(i.Dst)
	case api.InsnLoad:
		set[i.Src] = struct{}{}
		writes = int(i.Dst)
	case api.InsnSt, api.InsnStx, api.InsnJump:
		set[i.Dst] = struct{}{}
		if strings.Contains(r.used, "s") {
			set[i.Src] = struct{}{}
		}
	case api.InsnExit:
		set[0] = struct{}{}
	case api.InsnWide:
		writes = int(i.Dst)
	case api.InsnCall, api.InsnSub:
		writes = 0
	}
	var reads []uint8
	for n := range uint8(16) {
		if _, has := set[n]; has {
			reads = append(reads, n)
		}
	}
	return reads, writes
}

func TestP73AsTheWords(t *testing.T) {
	m := rows()
	eachInsn(func(i api.Insn) {
		reads, writes := touches(told(m, i), i)
		if l := insn.Reads(i); !slices.Equal(l, reads) {
			t.Errorf("Reads(%v) = %v; want %v", i, l, reads)
		}
		r, is := insn.Writes(i)
		if is != (writes >= 0) || is && int(r) != writes || !is && r != 0 {
			t.Errorf("Writes(%v) = %d, %v; want %d", i, r, is, writes)
		}
	})
}

func TestP74WrittenIsRead(t *testing.T) {
	eachInsn(func(i api.Insn) {
		s := insn.Encode(i)
		want := i
		want.Dst, want.Src = i.Dst%16, i.Src%16
		if back, e := insn.Decode(s); back != want || e != api.OK || len(s) != api.InsnSz {
			t.Errorf("%v is written as %q, and read as %v, %v", i, s, back, e)
		}
	})
}

func TestP74EachPart(t *testing.T) {
	check := func(i api.Insn) {
		if back, e := insn.Decode(insn.Encode(i)); back != i || e != api.OK {
			t.Errorf("%v is read as %v, %v", i, back, e)
		}
	}
	for n := range 1 << 16 {
		check(in(uint8(n), uint8(n>>8%16), uint8(n>>12), 0, 0))
		check(in(0, 0, 0, int16(n), 0))
		check(in(0, 0, 0, 0, int32(uint32(n))))
		check(in(0, 0, 0, 0, int32(uint32(n)<<16)))
	}
}

func TestP74ReadIsWritten(t *testing.T) {
	for at := range 8 {
		for n := range 256 {
			for _, of := range []byte{0, 0x5a, 0xff} {
				b := []byte{of, of, of, of, of, of, of, of}
				b[at] = byte(n)
				i, e := insn.Decode(string(b))
				if s := insn.Encode(i); s != string(b) || e != api.OK || i.Dst > 15 || i.Src > 15 {
					t.Errorf("%q is read as %v, %v, and written as %q", b, i, e, s)
				}
			}
		}
	}
}

func TestP74UnlikeOnes(t *testing.T) {
	seen := map[string]api.Insn{}
	eachInsn(func(i api.Insn) {
		if i.Dst > 15 || i.Src > 15 {
			return
		}
		s := insn.Encode(i)
		if other, has := seen[s]; has {
			t.Errorf("%v and %v are both written as %q", i, other, s)
		}
		seen[s] = i
	})
}

func TestP74RegFpIsNotWritten(t *testing.T) {
	for op := range 256 {
		for src := range 256 {
			for _, off := range []int16{0, 8} {
				for _, imm := range []int32{0, 5} {
					i := in(uint8(op), api.RegFp, uint8(src), off, imm)
					if r, is := insn.Writes(i); is || r != 0 {
						t.Errorf("Writes(%v) = %d, %v", i, r, is)
					}
				}
			}
		}
	}
	eachInsn(func(i api.Insn) {
		if r, is := insn.Writes(i); r >= api.RegFp {
			t.Errorf("Writes(%v) = %d, %v", i, r, is)
		}
	})
}
