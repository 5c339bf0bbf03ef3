package slab_test

import (
	"math"
	"slices"
	"strings"
	"testing"

	"warden/api"
	"warden/slab"
)

// thing is one as a slab tells of it.
type thing struct {
	slot, size int
	bytes      string
}

// state is all that a slab tells of itself.
type state struct {
	room, used int
	things     []thing
}

func stateOf(t *testing.T, s *slab.Slab) state {
	t.Helper()
	x := state{room: s.Room(), used: s.Used()}
	for _, slot := range s.Slots() {
		size, is := s.Size(slot)
		bytes, e := s.Read(slot, 0, size)
		if !is || e != api.OK || len(bytes) != size {
			t.Fatalf("slot %d is taken: Size %d, %v, Read %q, %v", slot, size, is, bytes, e)
		}
		x.things = append(x.things, thing{slot, size, bytes})
	}
	return x
}

func (x state) equal(y state) bool {
	return x.room == y.room && x.used == y.used && slices.Equal(x.things, y.things)
}

// made is a slab with that room, and with things of these sizes, from slot 0 on.
func made(t *testing.T, room int, sizes ...int) *slab.Slab {
	t.Helper()
	s, e := slab.New(room)
	if s == nil || e != api.OK {
		t.Fatal("New of", room, "is", s, e)
	}
	for slot, size := range sizes {
		takes(t, s, size, slot)
	}
	return s
}

// takes holds that the next thing of that size has that slot, and that its bytes are all 0.
func takes(t *testing.T, s *slab.Slab, size, slot int) {
	t.Helper()
	if got, e := s.Take(size); got != slot || e != api.OK {
		t.Fatalf("Take of %d is %d, %v, not slot %d", size, got, e, slot)
	}
	if got, is := s.Size(slot); got != size || !is {
		t.Fatalf("Size of slot %d is %d, %v, not %d", slot, got, is, size)
	}
	reads(t, s, slot, 0, strings.Repeat("\x00", size))
}

func gives(t *testing.T, s *slab.Slab, slots ...int) {
	t.Helper()
	for _, slot := range slots {
		if e := s.Give(slot); e != api.OK {
			t.Fatalf("Give of %d is %v", slot, e)
		}
		if size, is := s.Size(slot); size != 0 || is {
			t.Fatalf("Size of slot %d, that was given, is %d, %v", slot, size, is)
		}
	}
}

func reads(t *testing.T, s *slab.Slab, slot, at int, want string) {
	t.Helper()
	if got, e := s.Read(slot, at, len(want)); got != want || e != api.OK {
		t.Fatalf("Read of slot %d, %d bytes from %d on, is %q, %v, not %q", slot, len(want), at, got, e, want)
	}
}

func writes(t *testing.T, s *slab.Slab, slot, at int, text string) {
	t.Helper()
	if e := s.Write(slot, at, text); e != api.OK {
		t.Fatalf("Write of %q into slot %d at %d is %v", text, slot, at, e)
	}
}

// has holds what is used, and which slots are taken.
func has(t *testing.T, s *slab.Slab, room, used int, slots ...int) {
	t.Helper()
	if s.Room() != room || s.Used() != used || !slices.Equal(s.Slots(), slots) {
		t.Fatalf("%d of %d are used, slots %v, not %d of %d, %v", s.Used(), s.Room(), s.Slots(), used, room, slots)
	}
}

// refused is a call with the error that it is to answer, and its other result, which is to be zero.
type refused struct {
	name string
	call func() (zero bool, e api.Errno)
	want api.Errno
}

// run holds that the call answers its error, and changes nothing.
func (r refused) run(t *testing.T, s *slab.Slab) {
	t.Helper()
	before := stateOf(t, s)
	if zero, e := r.call(); !zero || e != r.want {
		t.Errorf("%s is %v, not %v (zero beside it: %v)", r.name, e, r.want, zero)
	}
	if after := stateOf(t, s); !before.equal(after) {
		t.Errorf("%s changed %v to %v", r.name, before, after)
	}
}

func noTake(s *slab.Slab, size int, want api.Errno) refused {
	return refused{"Take", func() (bool, api.Errno) { slot, e := s.Take(size); return slot == 0, e }, want}
}

func noGive(s *slab.Slab, slot int, want api.Errno) refused {
	return refused{"Give", func() (bool, api.Errno) { return true, s.Give(slot) }, want}
}

func noRead(s *slab.Slab, slot, at, n int, want api.Errno) refused {
	return refused{"Read", func() (bool, api.Errno) { text, e := s.Read(slot, at, n); return text == "", e }, want}
}

func noWrite(s *slab.Slab, slot, at int, text string, want api.Errno) refused {
	return refused{"Write", func() (bool, api.Errno) { return true, s.Write(slot, at, text) }, want}
}

func TestExample(t *testing.T) {
	s := made(t, 24)
	takes(t, s, 9, 0)
	has(t, s, 24, 16, 0)
	noTake(s, 9, api.ErrFull).run(t, s)
	takes(t, s, 8, 1)
	has(t, s, 24, 24, 0, 1)
}

func TestP121New(t *testing.T) {
	for _, room := range []int{0, 1, 7, 8, 100, 65535, 65536} {
		has(t, made(t, room), room, 0)
	}
	for _, room := range []int{math.MinInt, -65536, -8, -1, 65537, 65536 + 8, 1 << 32, math.MaxInt} {
		if s, e := slab.New(room); s != nil || e != api.ErrArg {
			t.Errorf("New of %d is %v, %v", room, s, e)
		}
	}
}

// TestP121NewEach: two slabs have nothing in common.
func TestP121NewEach(t *testing.T) {
	a, b := made(t, 64, 8), made(t, 64, 8, 8)
	writes(t, a, 0, 0, "abcdefgh")
	reads(t, b, 0, 0, "\x00\x00\x00\x00\x00\x00\x00\x00")
	gives(t, a, 0)
	has(t, a, 64, 0)
	has(t, b, 64, 16, 0, 1)
}

// noSizes are sizes that no thing has.
func noSizes() []int {
	return []int{math.MinInt, math.MinInt + 1, -256, -128, -8, -1, 0, 129, 130, 136, 256, 257, 1 << 16, 1 << 32, 1<<32 + 8, math.MaxInt - 8, math.MaxInt}
}

// classOf is the class of a size that has one, out of the chapter's words.
func classOf(size int) int {
	class := 8
	for class < size {
		class *= 2
	}
	return class
}

func TestP121Class(t *testing.T) {
	for _, x := range []struct{ size, class int }{
		{1, 8}, {2, 8}, {7, 8}, {8, 8}, {9, 16}, {15, 16}, {16, 16}, {17, 32}, {31, 32}, {32, 32},
		{33, 64}, {63, 64}, {64, 64}, {65, 128}, {127, 128}, {128, 128},
	} {
		if class, is := slab.Class(x.size); class != x.class || !is {
			t.Errorf("Class of %d is %d, %v, not %d", x.size, class, is, x.class)
		}
	}
	for size := 1; size <= api.MaxSize; size++ {
		if class, is := slab.Class(size); class != classOf(size) || !is {
			t.Errorf("Class of %d is %d, %v, not %d", size, class, is, classOf(size))
		}
	}
	for _, size := range noSizes() {
		if class, is := slab.Class(size); class != 0 || is {
			t.Errorf("Class of %d is %d, %v", size, class, is)
		}
	}
}

// TestP121TakeSizes: each size there is, one behind the other in one slab; and those that none has, in a slab with room and in one without.
func TestP121TakeSizes(t *testing.T) {
	s := made(t, api.MaxRoom)
	var slots []int
	used := 0
	for size := 1; size <= api.MaxSize; size++ {
		takes(t, s, size, size-1)
		slots, used = append(slots, size-1), used+classOf(size)
		has(t, s, api.MaxRoom, used, slots...)
	}
	for _, size := range noSizes() {
		noTake(s, size, api.ErrArg).run(t, s)
		full := made(t, 8, 8)
		noTake(full, size, api.ErrArg).run(t, full)
	}
}

// TestP121TakeRoom: where just so much room is left a thing is taken, where one byte is wanting it is not: the class counts, not the size.
func TestP121TakeRoom(t *testing.T) {
	for size := 1; size <= api.MaxSize; size++ {
		class := classOf(size)
		for _, ahead := range [][]int{nil, {1}, {128}, {9, 33, 64}} {
			used := 0
			for _, x := range ahead {
				used += classOf(x)
			}
			s := made(t, used+class, ahead...)
			takes(t, s, size, len(ahead))
			if s.Used() != s.Room() {
				t.Errorf("with a thing of %d all is used, not %d of %d", size, s.Used(), s.Room())
			}
			noTake(s, 1, api.ErrFull).run(t, s)
			s = made(t, used+class-1, ahead...)
			noTake(s, size, api.ErrFull).run(t, s)
			if class > 8 { // What is too much for a greater one may do for a lesser one.
				takes(t, s, 8, len(ahead))
			}
		}
	}
}

func TestP121NoRoom(t *testing.T) {
	for room := range 8 {
		s := made(t, room)
		for size := 1; size <= api.MaxSize; size++ {
			noTake(s, size, api.ErrFull).run(t, s)
		}
		has(t, s, room, 0)
	}
}

// TestP121AllRoom: of each class as many as MaxRoom has room for, and one more.
func TestP121AllRoom(t *testing.T) {
	for _, class := range []int{8, 16, 32, 64, 128} {
		s := made(t, api.MaxRoom)
		var slots []int
		for slot := range api.MaxRoom / class {
			takes(t, s, class-class/2+1, slot)
			slots = append(slots, slot)
		}
		has(t, s, api.MaxRoom, api.MaxRoom, slots...)
		noTake(s, class, api.ErrFull).run(t, s)
		noTake(s, 1, api.ErrFull).run(t, s)
		gives(t, s, 5)
		takes(t, s, class, 5)
	}
}

// TestP121Zeroes: of whatever was written into a slot nothing is found by who has it next, whatever the sizes.
func TestP121Zeroes(t *testing.T) {
	sizes := []int{1, 7, 8, 9, 16, 17, 31, 32, 33, 64, 65, 127, 128}
	for _, old := range sizes {
		for _, size := range sizes {
			s := made(t, 512, 8, old, 8)
			writes(t, s, 1, 0, strings.Repeat("\xff", old))
			gives(t, s, 1)
			takes(t, s, size, 1)
			writes(t, s, 1, size-1, "\xee")
			gives(t, s, 1)
			takes(t, s, old, 1)
		}
	}
}

func TestP121Give(t *testing.T) {
	s := made(t, 256, 8, 20, 64)
	for _, slot := range []int{math.MinInt, -1 << 32, -64, -2, -1, 3, 4, 63, 64, 65, 8191, 8192, 1 << 32, math.MaxInt} {
		noGive(s, slot, api.ErrNone).run(t, s)
		empty := made(t, 0)
		noGive(empty, slot, api.ErrNone).run(t, empty)
	}
	gives(t, s, 1)
	has(t, s, 256, 72, 0, 2)
	noGive(s, 1, api.ErrNone).run(t, s)
	gives(t, s, 2)
	has(t, s, 256, 8, 0)
	noGive(s, 2, api.ErrNone).run(t, s)
	gives(t, s, 0)
	has(t, s, 256, 0)
	noGive(s, 0, api.ErrNone).run(t, s)
	takes(t, s, 1, 0)
	gives(t, s, 0)
	noGive(s, 0, api.ErrNone).run(t, s)
}

// orders calls with each order of each choice among n slots.
func orders(n int, call func(slots []int)) {
	var more func(chosen []int)
	more = func(chosen []int) {
		call(slices.Clone(chosen))
		for slot := range n {
			if !slices.Contains(chosen, slot) {
				more(append(slices.Clone(chosen), slot))
			}
		}
	}
	more(nil)
}

// TestP121Least: whichever slots were given, in whatever order, those that are taken next are these, rising, and then the one behind all.
func TestP121Least(t *testing.T) {
	orders(6, func(given []int) {
		s := made(t, 512, 8, 9, 17, 33, 2, 3)
		gives(t, s, given...)
		slices.Sort(given)
		for _, slot := range given {
			takes(t, s, 5, slot)
		}
		takes(t, s, 5, 6)
	})
}

// TestP121LeastOfMany: likewise with many slots, of which whole rows, or all but one here and there, are given.
func TestP121LeastOfMany(t *testing.T) {
	const n = 400
	for _, is := range []func(slot int) bool{
		func(slot int) bool { return slot%2 == 0 },
		func(slot int) bool { return slot%64 == 63 },
		func(slot int) bool { return slot%64 == 0 },
		func(slot int) bool { return slot >= 64 && slot < 256 },
		func(slot int) bool { return slot > 3 },
		func(slot int) bool { return slot == n-1 },
		func(slot int) bool { return slot == 300 || slot == 17 },
		func(slot int) bool { return true },
		func(slot int) bool { return false },
	} {
		for _, back := range []bool{false, true} {
			s := made(t, api.MaxRoom)
			var given []int
			for slot := range n {
				takes(t, s, 8, slot)
				if is(slot) {
					given = append(given, slot)
				}
			}
			if back {
				slices.Reverse(given)
			}
			gives(t, s, given...)
			slices.Sort(given)
			for _, slot := range given {
				takes(t, s, 16, slot)
			}
			takes(t, s, 8, n)
		}
	}
}
