package code_test

import (
	"slices"
	"testing"

	"warden/api"
	"warden/code"
	"warden/insn"
)

// The chapter's words, written out as they stand, without a thought of speed: what the package answers is held against them.

// wordsNext answers where the instruction leads.
func wordsNext(l []api.Insn, at int) []int {
	if at < 0 || at >= len(l) || insn.Kind(l[at]) == api.InsnNone {
		return nil
	}
	next, jumped := at+1, at+1+int(l[at].Off)
	switch insn.Kind(l[at]) {
	case api.InsnGo:
		return []int{jumped}
	case api.InsnJump:
		if jumped == next {
			return []int{next}
		}
		return []int{min(next, jumped), max(next, jumped)}
	case api.InsnExit:
		return nil
	case api.InsnWide:
		return []int{at + 2}
	}
	return []int{next}
}

// wordsCallee answers whom the instruction names.
func wordsCallee(l []api.Insn, at int) (int, bool) {
	if at < 0 || at >= len(l) {
		return 0, false
	}
	switch {
	case insn.Kind(l[at]) == api.InsnSub:
		return at + 1 + int(l[at].Imm), true
	case insn.Kind(l[at]) == api.InsnWide && l[at].Src == api.WideFun:
		return at + 2 + int(l[at].Imm), true
	}
	return 0, false
}

// parted is a program as the words see it: beginnings and subprograms' beginnings, both rising.
type parted struct {
	l             []api.Insn
	begins, heads []int
}

// own answers the subprogram of a slot.
func (p parted) own(at int) api.Sub {
	s := api.Sub{To: len(p.l)}
	for _, h := range p.heads {
		if h <= at {
			s.From = h
		} else {
			s.To = min(s.To, h)
		}
	}
	return s
}

// jumpsWrong is what the words say of ErrJump.
func (p parted) jumpsWrong(at int) bool {
	for _, to := range wordsNext(p.l, at) {
		if to < 0 || to < len(p.l) && !slices.Contains(p.begins, to) {
			return true
		}
	}
	if named, is := wordsCallee(p.l, at); is && !slices.Contains(p.begins, named) {
		return true
	}
	return insn.Kind(p.l[at]) == api.InsnWide && p.l[at].Src == api.WideFun && p.l[at+1].Imm != 0
}

// leadsOut is what the words say of ErrEnd.
func (p parted) leadsOut(at int) bool {
	s := p.own(at)
	return slices.ContainsFunc(wordsNext(p.l, at), func(to int) bool { return to < s.From || to >= s.To })
}

// notReached is what the words say of ErrReach: rounds over all beginnings, till one of them finds no more.
func (p parted) notReached(at int) bool {
	got := []int{p.own(at).From}
	for more := true; more; {
		more = false
		for _, from := range p.begins {
			for _, to := range wordsNext(p.l, from) {
				if slices.Contains(got, from) && !slices.Contains(got, to) {
					got = append(got, to)
					more = true
				}
			}
		}
	}
	return !slices.Contains(got, at)
}

// calls answers whether the subprogram that begins at one calls the one that begins at other, in so many calls at most.
func (p parted) calls(one, other, most int) bool {
	if most == 0 {
		return false
	}
	for at := one; at < p.own(one).To; at++ {
		if to, is := wordsCallee(p.l, at); is && insn.Kind(p.l[at]) == api.InsnSub && (to == other || p.calls(to, other, most-1)) {
			return true
		}
	}
	return false
}

// wordsCheck goes through the promise, word by word.
func wordsCheck(l []api.Insn) ([]api.Sub, int, api.Errno) {
	if len(l) == 0 {
		return nil, 0, api.ErrArg
	}
	if len(l) > 1024 {
		return nil, 1024, api.ErrLong
	}
	p := parted{l: l, heads: []int{0}}
	for at := 0; at < len(l); at++ {
		p.begins = append(p.begins, at)
		switch insn.Kind(l[at]) {
		case api.InsnNone:
			return nil, at, api.ErrInsn
		case api.InsnWide:
			if at+1 == len(l) || l[at+1].Op != 0 || l[at+1].Dst != 0 || l[at+1].Src != 0 || l[at+1].Off != 0 {
				return nil, at, api.ErrInsn
			}
			at++
		}
	}
	if n := slices.IndexFunc(p.begins, p.jumpsWrong); n >= 0 {
		return nil, p.begins[n], api.ErrJump
	}
	for _, at := range p.begins {
		if named, is := wordsCallee(l, at); is && !slices.Contains(p.heads, named) {
			p.heads = append(p.heads, named)
		}
	}
	slices.Sort(p.heads)
	if len(p.heads) > 32 {
		return nil, p.heads[32], api.ErrLong
	}
	if n := slices.IndexFunc(p.begins, p.leadsOut); n >= 0 {
		return nil, p.begins[n], api.ErrEnd
	}
	if n := slices.IndexFunc(p.begins, p.notReached); n >= 0 {
		return nil, p.begins[n], api.ErrReach
	}
	if n := slices.IndexFunc(p.heads, func(at int) bool { return p.calls(at, at, len(p.heads)) }); n >= 0 {
		return nil, p.heads[n], api.ErrLoop
	}
	var subs []api.Sub
	for _, at := range p.heads {
		subs = append(subs, p.own(at))
	}
	return subs, 0, api.OK
}

// asWords holds all that is answered of a program against the words, and counts the answers of Check.
func asWords(t *testing.T, l []api.Insn, seen map[api.Errno]int) {
	t.Helper()
	for at := -1; at <= len(l); at++ {
		if to, want := code.Next(l, at), wordsNext(l, at); !slices.Equal(to, want) {
			t.Fatalf("Next(%v, %d) = %v; want %v", l, at, to, want)
		}
		to, is := code.Callee(l, at)
		if want, so := wordsCallee(l, at); to != want || is != so {
			t.Fatalf("Callee(%v, %d) = %d, %v; want %d, %v", l, at, to, is, want, so)
		}
	}
	subs, at, e := code.Check(l)
	if wantSubs, wantAt, want := wordsCheck(l); !slices.Equal(subs, wantSubs) || at != wantAt || e != want {
		t.Fatalf("Check(%v) = %v, %d, %v; want %v, %d, %v", l, subs, at, e, wantSubs, wantAt, want)
	}
	seen[e]++
	if e == api.OK {
		stays(t, l, subs)
	}
}

// stays asks what follows, of a program that was taken.
func stays(t *testing.T, l []api.Insn, subs []api.Sub) {
	t.Helper()
	begins := make([]bool, len(l))
	for at := 0; at < len(l); at++ {
		begins[at] = true
		if insn.Kind(l[at]) == api.InsnWide {
			at++
		}
	}
	end := 0
	for n, s := range subs {
		if s.From != end || s.To <= s.From || !begins[s.From] {
			t.Fatalf("%v: subprogram %d is %v", l, n, s)
		}
		end = s.To
		goesOn(t, l, s, begins)
		if n := longest(l, subs, s, len(subs)+1); n > len(subs) {
			t.Fatalf("%v: a chain of %d calls and more", l, n)
		}
	}
	if end != len(l) {
		t.Fatalf("%v: the last subprogram ends at %d", l, end)
	}
}

// goesOn goes all ways from the subprogram's beginning.
func goesOn(t *testing.T, l []api.Insn, s api.Sub, begins []bool) {
	t.Helper()
	been := make([]bool, len(l))
	open := []int{s.From}
	for len(open) > 0 {
		at := open[0]
		open = open[1:]
		if at < s.From || at >= s.To || !begins[at] {
			t.Fatalf("%v: slot %d is reached from %v", l, at, s)
		}
		to := code.Next(l, at)
		if (len(to) == 0) != (insn.Kind(l[at]) == api.InsnExit) {
			t.Fatalf("%v: slot %d leads to %v", l, at, to)
		}
		if !been[at] {
			been[at] = true
			open = append(open, to...)
		}
	}
}

// longest answers how many subprograms the longest chain of calls has, s being the first one; most is where it stops counting.
func longest(l []api.Insn, subs []api.Sub, s api.Sub, most int) int {
	if most == 1 {
		return 1
	}
	far := 0
	for at := s.From; at < s.To; at++ {
		if insn.Kind(l[at]) != api.InsnSub {
			continue
		}
		to, _ := code.Callee(l, at)
		n := slices.IndexFunc(subs, func(s api.Sub) bool { return s.From == to })
		far = max(far, longest(l, subs, subs[n], most-1))
	}
	return far + 1
}

// few has slots of which all programs that are short are put together.
var few = []api.Insn{
	mov(), exit(), none(), second(0), second(1), in(0, 0, 0, 1, 0),
	wide(1), fun(-2), fun(0), fun(1),
	sub(-3), sub(-2), sub(-1), sub(0), sub(1),
	goes(-2), goes(-1), goes(1),
	jump(-3), jump(-2), jump(0), jump(1),
}

func TestP84AllShortPrograms(t *testing.T) {
	seen := map[api.Errno]int{}
	var try func(l []api.Insn, most int)
	try = func(l []api.Insn, most int) {
		asWords(t, l, seen)
		if len(l) < most {
			for _, i := range few {
				try(append(slices.Clip(l), i), most)
			}
		}
	}
	try(nil, 4)
	for _, e := range []api.Errno{api.OK, api.ErrArg, api.ErrInsn, api.ErrJump, api.ErrEnd, api.ErrReach, api.ErrLoop} {
		if seen[e] == 0 {
			t.Errorf("%v was not seen: %v", e, seen)
		}
	}
}

// dice draws numbers that are the same each time.
type dice uint64

func (d *dice) below(n int) int {
	*d = *d*6364136223846793005 + 1442695040888963407
	return int(uint64(*d) >> 33 % uint64(n))
}

// likely draws a program most of whose jumps and calls lead where they may, so that all errors come up, and none as well.
func (d *dice) likely() []api.Insn {
	heads := []int{0}
	size := 1 + d.below(6)
	for range d.below(6) {
		heads = append(heads, size)
		size += 1 + d.below(6)
	}
	heads = append(heads, size)
	l := make([]api.Insn, size)
	for n := range len(heads) - 1 {
		d.fill(l, heads, n)
	}
	for d.below(4) == 0 {
		l[d.below(size)] = few[d.below(len(few))]
	}
	return l
}

// fill draws the slots of the nth subprogram, which ends with an exit or goes back.
func (d *dice) fill(l []api.Insn, heads []int, n int) {
	from, to := heads[n], heads[n+1]
	for at := from; at < to-1; at++ {
		near := from + d.below(to-from) - at - 1
		other := heads[d.below(len(heads)-1)]
		if d.below(3) > 0 {
			other = heads[min(n+1+d.below(2), len(heads)-2)]
		}
		switch what := d.below(12); {
		case what < 3:
			l[at] = mov()
		case what < 6:
			l[at] = jump(int16(near))
		case what < 7:
			l[at] = goes(int16(near))
		case what < 10:
			l[at] = sub(int32(other - at - 1))
		case at+2 < to:
			l[at], l[at+1] = fun(int32(other-at-2)), second(0)
			if what == 11 {
				l[at], l[at+1] = wide(-1), second(int32(d.below(3)))
			}
			at++
		default:
			l[at] = call(1)
		}
	}
	l[to-1] = exit()
	if d.below(8) == 0 {
		l[to-1] = goes(int16(from - to))
	}
}

func TestP84LikelyPrograms(t *testing.T) {
	seen := map[api.Errno]int{}
	d := dice(8)
	for range 100000 {
		asWords(t, d.likely(), seen)
	}
	for _, e := range []api.Errno{api.OK, api.ErrInsn, api.ErrJump, api.ErrEnd, api.ErrReach, api.ErrLoop} {
		if seen[e] < 100 {
			t.Errorf("%v was hardly seen: %v", e, seen)
		}
	}
}

func TestP84AnyBytes(t *testing.T) {
	d := dice(84)
	for range 20000 {
		b := make([]byte, 8*d.below(20))
		for n := range b {
			b[n] = byte(d.below(256) * d.below(2))
		}
		l, e := code.Decode(string(b))
		if e != api.OK || code.Encode(l) != string(b) {
			t.Fatalf("%q is read as %v, %v", b, l, e)
		}
		asWords(t, l, map[api.Errno]int{})
	}
}

func TestP84TheLongestChain(t *testing.T) {
	var l []api.Insn
	var ends []int
	for range api.MaxSubs - 1 {
		l = append(l, sub(1), exit())
		ends = append(ends, len(l))
	}
	l = append(l, exit())
	subs, at, e := code.Check(l)
	if want := parts(append(ends, len(l))...); !slices.Equal(subs, want) || at != 0 || e != api.OK {
		t.Fatal(subs, at, e)
	}
	stays(t, l, subs)
	if n := longest(l, subs, subs[0], 100); n != api.MaxSubs {
		t.Error(n)
	}
	// Once the last one calls any one of them, those from there on call themselves.
	for n := range api.MaxSubs {
		back := append(slices.Clone(l[:len(l)-1]), sub(int32(2*n-len(l))), exit())
		sees(t, "a round", back, nil, 2*n, api.ErrLoop)
	}
}

func TestP84AnswersAreNewMemory(t *testing.T) {
	l := callers(3)
	subs, _, _ := code.Check(l)
	to := code.Next(l, 0)
	back, _ := code.Decode(code.Encode(l))
	for n := range subs {
		subs[n] = api.Sub{}
	}
	to[0] = 99
	back[0] = none()
	again, at, e := code.Check(l)
	if !slices.Equal(again, parts(4, 5, 6, 7)) || at != 0 || e != api.OK || !slices.Equal(code.Next(l, 0), []int{1}) {
		t.Error(again, at, e, code.Next(l, 0))
	}
	if twice, _ := code.Decode(code.Encode(l)); !slices.Equal(twice, callers(3)) {
		t.Error(twice)
	}
}
