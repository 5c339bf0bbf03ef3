package slab_test

// The chapter's words written out again, in another way: things in a map by their slots, the least slot that is free counted up to from 0, what is used summed up. Held against the package over all short rows of calls, and over long ones that are drawn; and what follows of them.

import (
	"math/rand/v2"
	"slices"
	"strings"
	"testing"

	"warden/api"
	"warden/slab"
)

type words struct {
	room   int
	things map[int]string
}

func (w *words) used() int {
	sum := 0
	for _, bytes := range w.things {
		sum += classOf(len(bytes))
	}
	return sum
}

func (w *words) take(size int) (int, api.Errno) {
	if size < 1 || size > 128 {
		return 0, api.ErrArg
	}
	if w.used()+classOf(size) > w.room {
		return 0, api.ErrFull
	}
	slot := 0
	for w.things[slot] != "" {
		slot++
	}
	w.things[slot] = strings.Repeat("\x00", size)
	return slot, api.OK
}

func (w *words) give(slot int) api.Errno {
	if w.things[slot] == "" {
		return api.ErrNone
	}
	delete(w.things, slot)
	return api.OK
}

func (w *words) read(slot, at, n int) (string, api.Errno) {
	bytes := w.things[slot]
	if bytes == "" {
		return "", api.ErrNone
	}
	if !inside(len(bytes), at, n) {
		return "", api.ErrRange
	}
	return bytes[at : at+n], api.OK
}

func (w *words) write(slot, at int, text string) api.Errno {
	bytes := w.things[slot]
	if bytes == "" {
		return api.ErrNone
	}
	if !inside(len(bytes), at, len(text)) {
		return api.ErrRange
	}
	w.things[slot] = bytes[:at] + text + bytes[at+len(text):]
	return api.OK
}

func (w *words) state() state {
	x := state{room: w.room, used: w.used()}
	for slot, bytes := range w.things {
		x.things = append(x.things, thing{slot, len(bytes), bytes})
	}
	slices.SortFunc(x.things, func(a, b thing) int { return a.slot - b.slot })
	return x
}

// both is a slab and what the words say of it.
type both struct {
	s *slab.Slab
	w *words
}

func bothOf(t *testing.T, room int) both {
	return both{made(t, room), &words{room, map[int]string{}}}
}

// same holds all that the slab tells against the words.
func (b both) same(t *testing.T) {
	t.Helper()
	if got, want := stateOf(t, b.s), b.w.state(); !got.equal(want) {
		t.Fatalf("the slab is %v, not %v", got, want)
	}
	if b.s.Used() > b.s.Room() {
		t.Fatalf("%d are used of %d", b.s.Used(), b.s.Room())
	}
}

func (b both) take(t *testing.T, size int) {
	t.Helper()
	slot, e := b.s.Take(size)
	if want, f := b.w.take(size); slot != want || e != f {
		t.Fatalf("Take of %d is %d, %v, not %d, %v", size, slot, e, want, f)
	}
}

func (b both) give(t *testing.T, slot int) {
	t.Helper()
	e := b.s.Give(slot)
	if f := b.w.give(slot); e != f {
		t.Fatalf("Give of %d is %v, not %v", slot, e, f)
	}
}

func (b both) read(t *testing.T, slot, at, n int) {
	t.Helper()
	text, e := b.s.Read(slot, at, n)
	if want, f := b.w.read(slot, at, n); text != want || e != f {
		t.Fatalf("Read of slot %d, %d from %d on, is %q, %v, not %q, %v", slot, n, at, text, e, want, f)
	}
}

func (b both) write(t *testing.T, slot, at int, text string) {
	t.Helper()
	e := b.s.Write(slot, at, text)
	if f := b.w.write(slot, at, text); e != f {
		t.Fatalf("Write of %q into slot %d at %d is %v, not %v", text, slot, at, e, f)
	}
}

// TestWordsShort: all rows of five calls out of nine, in rooms for one to three things.
func TestWordsShort(t *testing.T) {
	calls := []func(b both){
		func(b both) { b.take(t, 1) },
		func(b both) { b.take(t, 8) },
		func(b both) { b.take(t, 9) },
		func(b both) { b.give(t, 0) },
		func(b both) { b.give(t, 1) },
		func(b both) { b.give(t, 2) },
		func(b both) { b.write(t, 0, 7, "x") },
		func(b both) { b.write(t, 1, 0, "y") },
		func(b both) { b.read(t, 1, 7, 2) },
	}
	all := 1
	for range 5 {
		all *= len(calls)
	}
	for _, room := range []int{15, 16, 24} {
		for row := range all {
			b := bothOf(t, room)
			for range 5 {
				calls[row%len(calls)](b)
				b.same(t)
				row /= len(calls)
			}
		}
	}
}

// drawn does one call, of one sort out of all, with numbers that are mostly such as may be.
func (b both) drawn(t *testing.T, r *rand.Rand, slots int) {
	t.Helper()
	slot := r.IntN(slots+2) - 1
	switch r.IntN(8) {
	case 0, 1, 2:
		b.take(t, r.IntN(132)-1)
	case 3:
		b.take(t, 1+r.IntN(9))
	case 4:
		b.give(t, slot)
	case 5:
		b.read(t, slot, r.IntN(20)-1, r.IntN(20)-1)
	default:
		text := make([]byte, r.IntN(40))
		for i := range text {
			text[i] = byte(r.IntN(256))
		}
		b.write(t, slot, r.IntN(50)-1, string(text))
	}
}

// TestWordsDrawn: long rows of calls, in rooms of unlike sizes; the slab is held against the words behind each call.
func TestWordsDrawn(t *testing.T) {
	for i, room := range []int{0, 8, 31, 64, 100, 500, 1000, 2048} {
		r := rand.New(rand.NewPCG(12, uint64(i)))
		b := bothOf(t, room)
		for range 5000 {
			b.drawn(t, r, max(3, room/40))
			b.same(t)
		}
	}
}

// TestWordsMany: likewise with thousands of slots, of which those are given that were drawn; the slab is held against the words now and then.
func TestWordsMany(t *testing.T) {
	r := rand.New(rand.NewPCG(12, 12))
	b := bothOf(t, api.MaxRoom)
	for range 6 {
		for range 1500 {
			b.take(t, 1+r.IntN(16))
		}
		b.same(t)
		for range 1500 {
			b.give(t, r.IntN(5000))
			b.write(t, r.IntN(5000), r.IntN(8), "z")
		}
		b.same(t)
	}
}

// TestP123Apart: what is written into one slot changes no other one, whatever the sizes of both.
func TestP123Apart(t *testing.T) {
	sizes := []int{1, 8, 9, 16, 24, 32, 50, 64, 100, 128, 3, 8}
	for to := range sizes {
		s := made(t, 2048, sizes...)
		for slot, size := range sizes {
			writes(t, s, slot, 0, strings.Repeat(string(rune('a'+slot)), size))
		}
		writes(t, s, to, 0, strings.Repeat("Z", sizes[to]))
		for slot, size := range sizes {
			want := strings.Repeat(string(rune('a'+slot)), size)
			if slot == to {
				want = strings.Repeat("Z", size)
			}
			reads(t, s, slot, 0, want)
		}
	}
}

// TestP123AllGiven: in whatever order all is given, all room is free again then, and has room for as much as before.
func TestP123AllGiven(t *testing.T) {
	sizes := []int{8, 128, 16, 64, 32}
	orders(len(sizes), func(given []int) {
		if len(given) < len(sizes) {
			return
		}
		s := made(t, 248, sizes...)
		for range 2 {
			noTake(s, 1, api.ErrFull).run(t, s)
			gives(t, s, given...)
			has(t, s, 248, 0)
			for slot, size := range sizes {
				takes(t, s, size, slot)
			}
			has(t, s, 248, 248, 0, 1, 2, 3, 4)
		}
	})
}

// TestP123Often: room that was given is there again, however often.
func TestP123Often(t *testing.T) {
	s := made(t, 128)
	for i := range 100000 {
		takes(t, s, 1+i%api.MaxSize, 0)
		gives(t, s, 0)
	}
	has(t, s, 128, 0)
	takes(t, s, 128, 0)
}
