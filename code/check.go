package code

import (
	"iter"
	"slices"

	"warden/api"
	"warden/insn"
)

// program is what the checks learn, one behind the other: each leans on what those ahead of it found.
type program struct {
	slots  []api.Insn
	begins []bool // by slot: whether an instruction begins there
	subs   []api.Sub
	home   []int // by slot: the place of its subprogram
}

// Check answers the subprograms; or the first error, and the least slot that tells it.
func Check(l []api.Insn) (subs []api.Sub, at int, e api.Errno) {
	p := &program{slots: l}
	for _, check := range checks(p) {
		if at, e := check(); e != api.OK {
			return nil, at, e
		}
	}
	return p.subs, 0, api.OK
}

// checks has all that is asked of a program, in the order in which errors go ahead of each other.
func checks(p *program) []func() (int, api.Errno) {
	return []func() (int, api.Errno){
		func() (int, api.Errno) { return told(0, len(p.slots) == 0, api.ErrArg) },
		func() (int, api.Errno) { return told(api.MaxInsns, len(p.slots) > api.MaxInsns, api.ErrLong) },
		func() (int, api.Errno) { return p.walk() },
		func() (int, api.Errno) { return p.least(p.strays, api.ErrJump) },
		func() (int, api.Errno) { return p.part() },
		func() (int, api.Errno) { return p.least(p.leaves, api.ErrEnd) },
		func() (int, api.Errno) { return p.least(p.missed(), api.ErrReach) },
		func() (int, api.Errno) { return p.least(p.loops, api.ErrLoop) },
	}
}

// told answers the error and its slot, if it is so, else that all is well.
func told(at int, is bool, e api.Errno) (int, api.Errno) {
	if is {
		return at, e
	}
	return 0, api.OK
}

// least answers the error at the least beginning of which it is so.
func (p *program) least(is func(at int) bool, e api.Errno) (int, api.Errno) {
	for at := range p.beginnings(api.Sub{To: len(p.slots)}) {
		if is(at) {
			return at, e
		}
	}
	return 0, api.OK
}

// beginnings goes through the slots of s at which instructions begin.
func (p *program) beginnings(s api.Sub) iter.Seq[int] {
	return func(yield func(int) bool) {
		for at := s.From; at < s.To; at++ {
			if p.begins[at] && !yield(at) {
				return
			}
		}
	}
}

// walk finds the beginnings; ErrInsn at the first one at which no whole instruction is, since nobody knows where the next one would begin.
func (p *program) walk() (int, api.Errno) {
	p.begins = make([]bool, len(p.slots))
	at := 0
slots:
	for at < len(p.slots) {
		switch insn.Kind(p.slots[at]) {
		case api.InsnNone:
			break slots
		case api.InsnWide:
			if !p.maySecond(at + 1) {
				break slots
			}
		}
		p.begins[at] = true
		at = behind(p.slots, at)
	}
	return told(at, at < len(p.slots), api.ErrInsn)
}

// maySecond answers whether the slot may be the second one of an instruction: it is there, and has nothing but Imm.
func (p *program) maySecond(at int) bool {
	return isThere(p.slots, at) && p.slots[at] == api.Insn{Imm: p.slots[at].Imm}
}

// strays answers whether the instruction leads or names where none begins; leading behind the end is for leaves to tell.
func (p *program) strays(at int) bool {
	for to := range leads(p.slots, at) {
		if to < len(p.slots) && !p.isBeginning(to) {
			return true
		}
	}
	if isFunction(p.slots, at) && p.slots[at+1].Imm != 0 {
		return true
	}
	named, is := Callee(p.slots, at)
	return is && !p.isBeginning(named)
}

// isBeginning answers whether an instruction begins there, also of slots that are not there.
func (p *program) isBeginning(at int) bool {
	return isThere(p.slots, at) && p.begins[at]
}

// part finds the subprograms; ErrLong at the first one that is too many.
func (p *program) part() (int, api.Errno) {
	heads := p.heads()
	p.home = make([]int, len(p.slots))
	for n, from := range heads {
		to := len(p.slots)
		if n+1 < len(heads) {
			to = heads[n+1]
		}
		for at := from; at < to; at++ {
			p.home[at] = n
		}
		p.subs = append(p.subs, api.Sub{From: from, To: to})
	}
	if len(heads) > api.MaxSubs {
		return heads[api.MaxSubs], api.ErrLong
	}
	return 0, api.OK
}

// heads answers where subprograms begin, rising: at 0, and wherever an instruction names one.
func (p *program) heads() []int {
	heads := []int{0}
	for at := range p.beginnings(api.Sub{To: len(p.slots)}) {
		if named, is := Callee(p.slots, at); is {
			heads = append(heads, named)
		}
	}
	slices.Sort(heads)
	return slices.Compact(heads)
}

// leaves answers whether the instruction leads out of its subprogram.
func (p *program) leaves(at int) bool {
	own := p.subs[p.home[at]]
	for to := range leads(p.slots, at) {
		if to < own.From || to >= own.To {
			return true
		}
	}
	return false
}

// missed answers what tells whether nothing leads to an instruction. No one leaves its subprogram any more, so that all of them are walked at once.
func (p *program) missed() func(at int) bool {
	var heads []int
	for _, s := range p.subs {
		heads = append(heads, s.From)
	}
	led := reached(len(p.slots), heads, func(at int) iter.Seq[int] { return leads(p.slots, at) })
	return func(at int) bool {
		return !led[at] && at != p.subs[p.home[at]].From
	}
}

// loops answers whether a subprogram begins there that calls itself, over others or not.
func (p *program) loops(at int) bool {
	own := p.home[at]
	return at == p.subs[own].From && reached(len(p.subs), []int{own}, p.calls)[own]
}

// calls goes through the subprograms that one calls; a function that is only named is not called.
func (p *program) calls(sub int) iter.Seq[int] {
	return func(yield func(int) bool) {
		for at := range p.beginnings(p.subs[sub]) {
			if named, is := Callee(p.slots, at); is && !isFunction(p.slots, at) && !yield(p.home[named]) {
				return
			}
		}
	}
}

// reached answers which of n things something leads to, on the ways that begin at from; those of from are not, unless a way leads back to them.
func reached(n int, from []int, leads func(int) iter.Seq[int]) []bool {
	led := make([]bool, n)
	open := slices.Clone(from)
	for len(open) > 0 {
		one := open[len(open)-1]
		open = open[:len(open)-1]
		for to := range leads(one) {
			if !led[to] {
				led[to] = true
				open = append(open, to)
			}
		}
	}
	return led
}
