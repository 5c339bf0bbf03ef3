package code_test

import (
	"math"
	"slices"
	"testing"

	"warden/api"
	"warden/code"
)

// slots makes a program in one row of a table.
func slots(l ...api.Insn) []api.Insn { return l }

// parts has the subprograms that end there, the first one from 0 on, each other one from where the one ahead of it ends.
func parts(ends ...int) []api.Sub {
	var l []api.Sub
	from := 0
	for _, to := range ends {
		l = append(l, api.Sub{From: from, To: to})
		from = to
	}
	return l
}

// sees asks Check, and holds its answer against what is wanted.
func sees(t *testing.T, what string, l []api.Insn, subs []api.Sub, at int, e api.Errno) {
	t.Helper()
	kept := slices.Clone(l)
	s, a, f := code.Check(l)
	if !slices.Equal(s, subs) || a != at || f != e {
		t.Errorf("%s: Check(%v) = %v, %d, %v; want %v, %d, %v", what, l, s, a, f, subs, at, e)
	}
	if !slices.Equal(l, kept) {
		t.Errorf("%s: the slots were changed", what)
	}
}

func TestP83Taken(t *testing.T) {
	for _, c := range []struct {
		what string
		l    []api.Insn
		subs []api.Sub
	}{
		{"an exit", slots(exit()), parts(1)},
		{"a number, an exit", slots(mov(), exit()), parts(2)},
		{"a call", slots(sub(1), exit(), mov(), exit()), parts(2, 4)},
		{"one of each kind", slots(in(0x79, 1, 2, 8, 0), in(0x7a, 10, 0, -8, 5), in(0x7b, 10, 1, -8, 0), call(1), jump(2), wide(1), second(2), goes(0), sub(1), exit(), exit()), parts(10, 11)},
		{"a wide one whose Imms are below 0", slots(wide(-1), second(-1), exit()), parts(3)},
		{"a map with upper bytes", slots(mapped(1), second(7), exit()), parts(3)},
		{"a loop of jumps", slots(mov(), jump(-2), exit()), parts(3)},
		{"a jump to itself", slots(jump(-1), exit()), parts(2)},
		{"no way to an exit", slots(goes(-1)), parts(1)},
		{"behind an exit, by a jump", slots(jump(1), exit(), mov(), exit()), parts(4)},
		{"backwards", slots(goes(2), mov(), exit(), goes(-3)), parts(4)},
		{"over a wide one", slots(jump(2), wide(1), second(1), exit()), parts(4)},
		{"a function that is named", slots(fun(1), second(0), exit(), mov(), exit()), parts(3, 5)},
		{"one that names itself", slots(fun(-2), second(0), exit()), parts(3)},
		{"a subprogram that names itself", slots(sub(1), exit(), fun(-2), second(0), exit()), parts(2, 5)},
		{"two that name each other", slots(fun(1), second(0), exit(), fun(-5), second(0), exit()), parts(3, 6)},
		{"one that calls who names it", slots(sub(1), exit(), fun(-4), second(0), exit()), parts(2, 5)},
		{"one that names who calls it", slots(fun(1), second(0), exit(), sub(-4), exit()), parts(3, 5)},
		{"twice the same", slots(sub(2), sub(1), exit(), exit()), parts(3, 4)},
		{"called and named", slots(sub(3), fun(1), second(0), exit(), exit()), parts(4, 5)},
		{"the later one first", slots(sub(3), sub(1), exit(), exit(), exit()), parts(3, 4, 5)},
		{"a chain", slots(sub(1), exit(), sub(1), exit(), sub(1), exit(), exit()), parts(2, 4, 6, 7)},
		{"a chain backwards", slots(sub(4), exit(), exit(), sub(-2), exit(), sub(-3), exit()), parts(2, 3, 5, 7)},
		{"two ways to one", slots(sub(2), sub(3), exit(), sub(3), exit(), sub(1), exit(), exit()), parts(3, 5, 7, 8)},
		{"called by nobody but named ones", slots(fun(1), second(0), exit(), sub(1), exit(), exit()), parts(3, 5, 6)},
	} {
		sees(t, c.what, c.l, c.subs, 0, api.OK)
	}
}

func TestP83Sizes(t *testing.T) {
	sees(t, "no slots", nil, nil, 0, api.ErrArg)
	sees(t, "no slots", slots(), nil, 0, api.ErrArg)
	row := func(n int) []api.Insn { return append(slices.Repeat(slots(mov()), n-1), exit()) }
	sees(t, "one less", row(api.MaxInsns-1), parts(1023), 0, api.OK)
	sees(t, "MaxInsns", row(api.MaxInsns), parts(1024), 0, api.OK)
	sees(t, "one more", row(api.MaxInsns+1), nil, 1024, api.ErrLong)
	sees(t, "many more", row(3*api.MaxInsns), nil, 1024, api.ErrLong)
	sees(t, "none of them an instruction", slices.Repeat(slots(none()), api.MaxInsns+1), nil, 1024, api.ErrLong)
	sees(t, "none of them an instruction, as many as may be", slices.Repeat(slots(none()), api.MaxInsns), nil, 0, api.ErrInsn)
	sees(t, "wide at the last slot", append(row(api.MaxInsns-1), wide(1)), nil, 1023, api.ErrInsn)
	sees(t, "wide up to the last slot", append(slices.Repeat(slots(mov()), 1021), goes(0), wide(1), second(1)), nil, 1022, api.ErrEnd)
}

func TestP83Insn(t *testing.T) {
	for _, c := range []struct {
		what string
		l    []api.Insn
		at   int
	}{
		{"none", slots(none()), 0},
		{"nothing but zeros", slots(api.Insn{}), 0},
		{"behind an exit", slots(exit(), none()), 1},
		{"two of them", slots(mov(), none(), none(), exit()), 1},
		{"a second slot without a first one", slots(second(1), exit()), 0},
		{"a second slot behind another one", slots(wide(1), second(1), second(1), exit()), 2},
		{"wide alone", slots(wide(1)), 0},
		{"wide at the last slot", slots(mov(), exit(), wide(1)), 2},
		{"wide, behind it an instruction", slots(wide(1), exit()), 0},
		{"wide, behind it a wide one", slots(wide(1), wide(1), second(1), exit()), 0},
		{"a second slot with Op", slots(mov(), wide(1), in(1, 0, 0, 0, 1), exit()), 1},
		{"a second slot with Dst", slots(mov(), wide(1), in(0, 1, 0, 0, 1), exit()), 1},
		{"a second slot with Dst of more than half a byte", slots(mov(), wide(1), in(0, 16, 0, 0, 1), exit()), 1},
		{"a second slot with Src", slots(mov(), mapped(1), in(0, 0, 1, 0, 1), exit()), 1},
		{"a second slot with Src of more than half a byte", slots(mov(), wide(1), in(0, 0, 16, 0, 1), exit()), 1},
		{"a second slot with Off", slots(mov(), fun(1), in(0, 0, 0, 1, 0), exit()), 1},
		{"a second slot with Off below 0", slots(mov(), wide(1), in(0, 0, 0, -1, 0), exit()), 1},
		{"RegFp", slots(in(0xb7, 10, 0, 0, 1), exit()), 0},
		{"a register that is not there", slots(mov(), in(0xb7, 11, 0, 0, 1), exit()), 1},
		{"wide of no sort", slots(in(0x18, 1, 3, 0, 0), second(0), exit()), 0},
		{"it is jumped over", slots(goes(1), none(), exit()), 1},
	} {
		sees(t, c.what, c.l, nil, c.at, api.ErrInsn)
	}
}

func TestP83Jump(t *testing.T) {
	for _, c := range []struct {
		what string
		l    []api.Insn
		at   int
	}{
		{"goes below 0", slots(goes(-2), exit()), 0},
		{"goes far below 0", slots(mov(), goes(math.MinInt16), exit()), 1},
		{"jumps below 0", slots(mov(), jump(-3), exit()), 1},
		{"goes to a second slot", slots(goes(1), wide(1), second(1), exit()), 0},
		{"goes back to a second slot", slots(wide(1), second(1), goes(-2)), 2},
		{"jumps to a second slot", slots(jump(1), wide(1), second(1), exit()), 0},
		{"jumps back to a second slot", slots(wide(1), second(1), jump(-2), exit()), 2},
		{"calls below 0", slots(sub(-2), exit()), 0},
		{"calls far below 0", slots(sub(math.MinInt32), exit()), 0},
		{"calls behind the end", slots(mov(), sub(1), exit()), 1},
		{"calls farther", slots(mov(), sub(2), exit()), 1},
		{"calls far up", slots(sub(math.MaxInt32), exit()), 0},
		{"calls a second slot", slots(sub(2), exit(), wide(1), second(1), exit()), 0},
		{"names below 0", slots(fun(-3), second(0), exit()), 0},
		{"names far below 0", slots(fun(math.MinInt32), second(0), exit()), 0},
		{"names behind the end", slots(fun(1), second(0), exit()), 0},
		{"names far up", slots(mov(), fun(math.MaxInt32), second(0), exit()), 1},
		{"names a second slot", slots(fun(2), second(0), exit(), wide(1), second(1), exit()), 0},
		{"names its own second slot", slots(fun(-1), second(0), exit()), 0},
		{"a function with upper bytes", slots(fun(1), second(1), exit(), exit()), 0},
		{"a function with upper bytes below 0", slots(mov(), fun(-3), second(-1), exit()), 1},
		{"two that jump wrong", slots(mov(), goes(-7), goes(-8)), 1},
		{"upper bytes ahead of a jump", slots(fun(1), second(1), goes(-7), exit()), 0},
		{"a jump ahead of upper bytes", slots(goes(-7), fun(1), second(1), exit(), exit()), 0},
		{"a call ahead of a jump", slots(sub(9), goes(-7)), 0},
		{"one that nothing leads to", slots(exit(), goes(-7)), 1},
	} {
		sees(t, c.what, c.l, nil, c.at, api.ErrJump)
	}
}

// callers calls n subprograms, each of them an exit; the one behind the last call is the last one of 0's.
func callers(n int) []api.Insn {
	l := append(slices.Repeat(slots(sub(int32(n))), n), exit())
	return append(l, slices.Repeat(slots(exit()), n)...)
}

// namers has the likes of callers, by functions that are only named.
func namers(n int) []api.Insn {
	var l []api.Insn
	for k := range n {
		l = append(l, fun(int32(2*n-2-2*k+1+k)), second(0))
	}
	return append(l, slices.Repeat(slots(exit()), n+1)...)
}

func TestP83Subs(t *testing.T) {
	for _, n := range []int{0, 1, 2, 30, 31} {
		subs := parts(n + 1)
		named := parts(2*n + 1)
		for k := range n {
			subs = append(subs, api.Sub{From: n + 1 + k, To: n + 2 + k})
			named = append(named, api.Sub{From: 2*n + 1 + k, To: 2*n + 2 + k})
		}
		sees(t, "calls", callers(n), subs, 0, api.OK)
		sees(t, "functions", namers(n), named, 0, api.OK)
	}
	for _, n := range []int{32, 33, 100, 300} {
		// The one at 0 and 31 others may be: the one that is too many is the 32nd behind 0.
		sees(t, "calls", callers(n), nil, n+1+31, api.ErrLong)
		sees(t, "functions", namers(n), nil, 2*n+1+31, api.ErrLong)
	}
	// The order in which they are named does not count.
	turned := callers(32)
	for k := range 32 {
		turned[k].Imm = int32(63 - 2*k)
	}
	sees(t, "turned", turned, nil, 64, api.ErrLong)
	turned = callers(31)
	for k := range 31 {
		turned[k].Imm = int32(61 - 2*k)
	}
	if subs, at, e := code.Check(turned); len(subs) != 32 || at != 0 || e != api.OK || subs[31] != (api.Sub{From: 62, To: 63}) {
		t.Error("turned", subs, at, e)
	}
}

func TestP83End(t *testing.T) {
	for _, c := range []struct {
		what string
		l    []api.Insn
		at   int
	}{
		{"a number alone", slots(mov()), 0},
		{"the last one", slots(mov(), mov()), 1},
		{"wide at the end", slots(wide(1), second(1)), 0},
		{"a call at the end", slots(mov(), call(1)), 1},
		{"goes behind the end", slots(goes(1), exit()), 0},
		{"goes far", slots(goes(math.MaxInt16), exit()), 0},
		{"jumps behind the end", slots(mov(), jump(1), exit()), 1},
		{"jumps at the end", slots(mov(), jump(-2)), 1},
		{"jumps from the end to itself", slots(jump(-1)), 0},
		{"into the next subprogram", slots(sub(0), exit()), 0},
		{"into the next subprogram by what it names", slots(fun(0), second(0), exit()), 0},
		{"falls into it", slots(sub(1), mov(), exit()), 1},
		{"jumps into it", slots(sub(2), jump(1), exit(), mov(), exit()), 1},
		{"jumps into the middle of it", slots(sub(2), jump(2), exit(), mov(), exit()), 1},
		{"goes back out of it", slots(sub(1), exit(), goes(-3)), 2},
		{"jumps back out of it", slots(sub(1), exit(), jump(-3), exit()), 2},
		{"falls into one that is called backwards", slots(goes(1), exit(), sub(-2), exit()), 0},
		{"two of them", slots(sub(1), exit(), mov(), jump(-4), mov()), 3},
		{"one that nothing leads to", slots(exit(), mov()), 1},
	} {
		sees(t, c.what, c.l, nil, c.at, api.ErrEnd)
	}
}

func TestP83Reach(t *testing.T) {
	for _, c := range []struct {
		what string
		l    []api.Insn
		at   int
	}{
		{"behind a go", slots(goes(-1), exit()), 1},
		{"behind an exit", slots(exit(), exit()), 1},
		{"two of them", slots(exit(), mov(), exit()), 1},
		{"jumped over", slots(goes(2), wide(1), second(1), exit()), 1},
		{"only from what is not reached", slots(goes(2), exit(), mov(), exit(), goes(-3)), 1},
		{"only from itself", slots(exit(), goes(-1)), 1},
		{"a round that nothing leads to", slots(exit(), mov(), goes(-2)), 1},
		{"behind one to which something leads", slots(jump(1), exit(), exit(), exit()), 3},
		{"in a subprogram", slots(sub(1), exit(), goes(1), mov(), exit()), 3},
		{"in both", slots(sub(2), exit(), exit(), exit(), exit()), 2},
		{"in a function that is named", slots(fun(1), second(0), exit(), exit(), exit()), 4},
	} {
		sees(t, c.what, c.l, nil, c.at, api.ErrReach)
	}
}

func TestP83Loop(t *testing.T) {
	for _, c := range []struct {
		what string
		l    []api.Insn
		at   int
	}{
		{"one, at 0", slots(sub(-1), exit()), 0},
		{"one, later in it", slots(mov(), mov(), sub(-3), exit()), 0},
		{"one, called from 0", slots(sub(1), exit(), sub(-1), exit()), 2},
		{"one, only named from 0", slots(fun(1), second(0), exit(), sub(-1), exit()), 3},
		{"two, with 0", slots(sub(1), exit(), sub(-3), exit()), 0},
		{"two, called from 0", slots(sub(1), exit(), sub(1), exit(), sub(-3), exit()), 2},
		{"two, the later one called from 0", slots(sub(3), exit(), sub(1), exit(), sub(-3), exit()), 2},
		{"three, with 0", slots(sub(1), exit(), sub(1), exit(), sub(-5), exit()), 0},
		{"three, called from 0", slots(sub(1), exit(), sub(1), exit(), sub(1), exit(), sub(-5), exit()), 2},
		{"three, the last one called from 0", slots(sub(5), exit(), sub(1), exit(), sub(1), exit(), sub(-5), exit()), 2},
		{"the second of two calls", slots(sub(2), sub(2), exit(), exit(), sub(-1), exit()), 4},
		{"two rounds of one", slots(sub(4), sub(1), exit(), sub(-1), exit(), sub(-1), exit()), 3},
		{"a round behind a chain", slots(sub(1), exit(), sub(1), exit(), sub(1), exit(), sub(-1), exit()), 6},
		{"it names another one, too", slots(fun(2), second(0), sub(-3), exit(), exit()), 0},
		{"a call that no run does", slots(jump(1), exit(), sub(-3), exit()), 0},
	} {
		sees(t, c.what, c.l, nil, c.at, api.ErrLoop)
	}
}

// flaw is slots of a subprogram that tell one error, wherever they stand: where, and where else subprograms begin in them.
type flaw struct {
	e     api.Errno
	l     []api.Insn
	at    int
	heads []int
}

// flaws has one of each error, in the order in which they go ahead of each other.
func flaws() []flaw {
	many := flaw{e: api.ErrLong, l: callers(api.MaxSubs)}
	for k := range api.MaxSubs {
		many.heads = append(many.heads, api.MaxSubs+1+k)
	}
	return []flaw{
		{e: api.ErrInsn, l: slots(mov(), none(), exit()), at: 1},
		{e: api.ErrJump, l: slots(mov(), jump(1), wide(1), second(1), exit()), at: 1},
		many,
		{e: api.ErrEnd, l: slots(mov(), mov()), at: 1},
		{e: api.ErrReach, l: slots(exit(), mov(), exit()), at: 1},
		{e: api.ErrLoop, l: slots(mov(), sub(-2), exit()), at: 0},
	}
}

// flawed puts a program together that calls a subprogram of each of the flaws, in the order that is told; and tells the error by its order, and its slot.
func flawed(all []flaw, order []int) (l []api.Insn, at int, e api.Errno) {
	heads := []int{0}
	base := len(order) + 1
	for n, k := range order {
		l = append(l, sub(int32(base-n-1)))
		heads = append(heads, base)
		for _, h := range all[k].heads {
			heads = append(heads, base+h)
		}
		if k == slices.Min(order) && e == api.OK {
			at, e = base+all[k].at, all[k].e
		}
		base += len(all[k].l)
	}
	l = append(l, exit())
	for _, k := range order {
		l = append(l, all[k].l...)
	}
	if e == api.ErrLong {
		at = heads[api.MaxSubs]
	}
	return l, at, e
}

func TestP83OrderOfErrors(t *testing.T) {
	all := flaws()
	seen := 0
	var try func(order []int)
	try = func(order []int) {
		if len(order) > 0 {
			seen++
			l, at, e := flawed(all, order)
			if s, a, f := code.Check(l); len(s) != 0 || a != at || f != e {
				t.Errorf("flaws %v: %v, %d, %v; want %d, %v", order, s, a, f, at, e)
			}
		}
		for k := range all {
			if !slices.Contains(order, k) {
				try(append(slices.Clone(order), k))
			}
		}
	}
	try(nil)
	if seen != 1956 {
		t.Error(seen)
	}
	for k := range all {
		l, at, e := flawed(all, []int{k, k, k})
		sees(t, "thrice the same", l, nil, at, e)
	}
}

func TestP83TooLongGoesAheadOfAll(t *testing.T) {
	for _, f := range flaws() {
		l := slices.Concat(f.l, slices.Repeat(slots(mov()), api.MaxInsns), f.l)
		if s, at, e := code.Check(l); len(s) != 0 || at != api.MaxInsns || e != api.ErrLong {
			t.Errorf("%v: %v, %d, %v", f.e, s, at, e)
		}
	}
}
