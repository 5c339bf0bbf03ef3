package code_test

import (
	"math"
	"slices"
	"testing"

	"warden/api"
	"warden/code"
)

// led has, of programs, where a slot leads.
var led = []struct {
	what string
	l    []api.Insn
	at   int
	to   []int
}{
	// One of each kind.
	{"reckons", []api.Insn{mov(), exit()}, 0, []int{1}},
	{"loads", []api.Insn{mov(), in(0x79, 1, 2, 8, 0), exit()}, 1, []int{2}},
	{"stores a number", []api.Insn{in(0x7a, 10, 0, -8, 5), exit()}, 0, []int{1}},
	{"stores a register", []api.Insn{in(0x7b, 10, 1, -8, 0), exit()}, 0, []int{1}},
	{"jumps", []api.Insn{jump(1), mov(), exit()}, 0, []int{1, 2}},
	{"jumps by a register", []api.Insn{in(0x1d, 1, 2, 1, 0), mov(), exit()}, 0, []int{1, 2}},
	{"jumps by 32 bits", []api.Insn{in(0x16, 1, 0, 1, 9), mov(), exit()}, 0, []int{1, 2}},
	{"calls the kernel", []api.Insn{call(7), exit()}, 0, []int{1}},
	{"calls a subprogram", []api.Insn{sub(2), exit(), mov(), exit()}, 0, []int{1}},
	{"exits", []api.Insn{exit(), exit()}, 0, nil},
	{"is wide", []api.Insn{wide(1), second(0), exit()}, 0, []int{2}},
	{"is a map", []api.Insn{mov(), mapped(1), second(0), exit()}, 1, []int{3}},
	{"is a function", []api.Insn{fun(1), second(0), exit(), exit()}, 0, []int{2}},
	{"goes", []api.Insn{goes(1), mov(), exit()}, 0, []int{2}},

	{"jumps farther", []api.Insn{mov(), jump(3), mov(), mov(), mov(), exit()}, 1, []int{2, 5}},
	{"both ways are one", []api.Insn{jump(0), exit()}, 0, []int{1}},
	{"goes to the next one", []api.Insn{goes(0), exit()}, 0, []int{1}},
	{"jumps back", []api.Insn{mov(), mov(), jump(-3), exit()}, 2, []int{0, 3}},
	{"jumps to itself", []api.Insn{mov(), jump(-1), exit()}, 1, []int{1, 2}},
	{"goes back", []api.Insn{mov(), mov(), goes(-3)}, 2, []int{0}},
	{"goes to itself", []api.Insn{mov(), goes(-1)}, 1, []int{1}},

	// To slots that are not there.
	{"behind the end", []api.Insn{mov()}, 0, []int{1}},
	{"wide behind the end", []api.Insn{wide(1), second(1)}, 0, []int{2}},
	{"wide without a second slot", []api.Insn{mov(), wide(1)}, 1, []int{3}},
	{"goes below 0", []api.Insn{mov(), goes(-3)}, 1, []int{-1}},
	{"goes far below 0", []api.Insn{goes(math.MinInt16)}, 0, []int{-32767}},
	{"goes far up", []api.Insn{mov(), goes(math.MaxInt16)}, 1, []int{32769}},
	{"jumps below 0", []api.Insn{mov(), jump(-3)}, 1, []int{-1, 2}},
	{"jumps far below 0", []api.Insn{jump(math.MinInt16)}, 0, []int{-32767, 1}},
	{"jumps far up", []api.Insn{jump(math.MaxInt16)}, 0, []int{1, 32768}},

	// To where no instruction begins, and from there.
	{"goes to a second slot", []api.Insn{goes(1), wide(1), second(1), exit()}, 0, []int{2}},
	{"goes to none", []api.Insn{goes(0), none()}, 0, []int{1}},
	{"is where a second slot should be", []api.Insn{wide(1), jump(3), exit()}, 1, []int{2, 5}},
	{"is wide behind a wide one", []api.Insn{wide(1), wide(1), second(0)}, 1, []int{3}},
	{"behind what is none", []api.Insn{none(), goes(7)}, 1, []int{9}},

	// No slot, or no instruction.
	{"is a second slot", []api.Insn{wide(1), second(1), exit()}, 1, nil},
	{"is none", []api.Insn{none(), exit()}, 0, nil},
	{"goes with a number", []api.Insn{in(5, 0, 0, 1, 1), exit(), exit()}, 0, nil},
	{"reckons into RegFp", []api.Insn{in(0xb7, 10, 0, 0, 1), exit()}, 0, nil},
	{"no slots", nil, 0, nil},
	{"the end", []api.Insn{mov(), mov()}, 2, nil},
	{"farther", []api.Insn{mov(), mov()}, 3, nil},
	{"below 0", []api.Insn{mov(), mov()}, -1, nil},
	{"far below 0", []api.Insn{mov(), mov()}, math.MinInt, nil},
	{"far up", []api.Insn{mov(), mov()}, math.MaxInt, nil},
}

func TestP82Next(t *testing.T) {
	for _, c := range led {
		if to := code.Next(c.l, c.at); !slices.Equal(to, c.to) {
			t.Errorf("%s: Next(%v, %d) = %v; want %v", c.what, c.l, c.at, to, c.to)
		}
	}
}

func TestP82NextHasNoBound(t *testing.T) {
	l := slices.Repeat([]api.Insn{mov()}, 5*api.MaxInsns)
	l[4*api.MaxInsns] = jump(-api.MaxInsns - 1)
	if to := code.Next(l, 4*api.MaxInsns); !slices.Equal(to, []int{3 * api.MaxInsns, 4*api.MaxInsns + 1}) {
		t.Error(to)
	}
}

func TestP82Callee(t *testing.T) {
	for _, c := range []struct {
		what string
		l    []api.Insn
		at   int
		to   int
		is   bool
	}{
		{"calls", []api.Insn{sub(1), exit(), exit()}, 0, 2, true},
		{"calls the next one", []api.Insn{mov(), sub(0), exit()}, 1, 2, true},
		{"calls back", []api.Insn{exit(), mov(), sub(-3), exit()}, 2, 0, true},
		{"calls itself", []api.Insn{mov(), sub(-1), exit()}, 1, 1, true},
		{"calls below 0", []api.Insn{mov(), sub(-3), exit()}, 1, -1, true},
		{"calls far below 0", []api.Insn{sub(math.MinInt32)}, 0, math.MinInt32 + 1, true},
		{"calls behind the end", []api.Insn{sub(1), exit()}, 0, 2, true},
		{"calls far up", []api.Insn{mov(), sub(math.MaxInt32)}, 1, math.MaxInt32 + 2, true},
		{"calls a second slot", []api.Insn{sub(1), wide(0), second(0)}, 0, 2, true},
		{"calls from where a second slot should be", []api.Insn{wide(0), sub(3)}, 1, 5, true},

		{"names", []api.Insn{fun(1), second(0), exit(), exit()}, 0, 3, true},
		{"names the next one", []api.Insn{mov(), fun(0), second(0), exit()}, 1, 3, true},
		{"names back", []api.Insn{exit(), mov(), fun(-4), second(0)}, 2, 0, true},
		{"names itself", []api.Insn{mov(), fun(-2), second(0)}, 1, 1, true},
		{"names its second slot", []api.Insn{mov(), fun(-1), second(0)}, 1, 2, true},
		{"names below 0", []api.Insn{fun(-3), second(0)}, 0, -1, true},
		{"names far below 0", []api.Insn{fun(math.MinInt32), second(0)}, 0, math.MinInt32 + 2, true},
		{"names far up", []api.Insn{fun(math.MaxInt32), second(0)}, 0, math.MaxInt32 + 2, true},
		// Check refuses these; how far it is from here stands in the first slot alone.
		{"names with upper bytes", []api.Insn{fun(1), second(5), exit(), exit()}, 0, 3, true},
		{"names without a second slot", []api.Insn{mov(), fun(1)}, 1, 4, true},

		{"calls the kernel", []api.Insn{call(1), exit()}, 0, 0, false},
		{"is a number", []api.Insn{wide(1), second(0), exit()}, 0, 0, false},
		{"is a map", []api.Insn{mapped(1), second(0), exit()}, 0, 0, false},
		{"is a second slot", []api.Insn{fun(1), second(0), exit()}, 1, 0, false},
		{"reckons", []api.Insn{mov(), exit()}, 0, 0, false},
		{"exits", []api.Insn{mov(), exit()}, 1, 0, false},
		{"goes", []api.Insn{goes(1), exit()}, 0, 0, false},
		{"jumps", []api.Insn{jump(1), exit()}, 0, 0, false},
		{"loads", []api.Insn{in(0x79, 1, 2, 8, 0), exit()}, 0, 0, false},
		{"is none", []api.Insn{none(), exit()}, 0, 0, false},
		{"calls with an offset", []api.Insn{in(0x85, 0, 1, 1, 1), exit()}, 0, 0, false},
		{"calls of no sort", []api.Insn{in(0x85, 0, 2, 0, 1), exit()}, 0, 0, false},
		{"wide into RegFp", []api.Insn{in(0x18, 10, 2, 0, 1), second(0)}, 0, 0, false},
		{"no slots", nil, 0, 0, false},
		{"the end", []api.Insn{sub(0), sub(0)}, 2, 0, false},
		{"farther", []api.Insn{sub(0), sub(0)}, 3, 0, false},
		{"below 0", []api.Insn{sub(0), sub(0)}, -1, 0, false},
		{"far below 0", []api.Insn{sub(0), sub(0)}, math.MinInt, 0, false},
		{"far up", []api.Insn{sub(0), sub(0)}, math.MaxInt, 0, false},
	} {
		if to, is := code.Callee(c.l, c.at); to != c.to || is != c.is {
			t.Errorf("%s: Callee(%v, %d) = %d, %v; want %d, %v", c.what, c.l, c.at, to, is, c.to, c.is)
		}
	}
}
