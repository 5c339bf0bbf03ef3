package slab_test

import (
	"math"
	"slices"
	"strings"
	"testing"

	"warden/api"
	"warden/slab"
)

// bytesOf are n bytes that all differ from each other, and from 0.
func bytesOf(n int) string {
	b := make([]byte, n)
	for i := range b {
		b[i] = byte(i + 1)
	}
	return string(b)
}

// edges are numbers ahead of, in, and behind a thing of that size, and such that their sum with others goes round.
func edges(size int) []int {
	l := []int{
		math.MinInt, math.MinInt + 1, math.MinInt + size, -1 << 32, -size - 1, -size, -2, -1, 0, 1, size / 2, size - 1, size, size + 1,
		classOf(size) - 1, classOf(size), classOf(size) + 1, 128, 129, 1 << 31, 1 << 32, 1<<32 + 1,
		math.MaxInt - size - 1, math.MaxInt - size, math.MaxInt - 1, math.MaxInt,
	}
	slices.Sort(l)
	return slices.Compact(l)
}

// inside answers whether n bytes from at on are in a thing of that size, without a sum that goes round.
func inside(size, at, n int) bool {
	return at >= 0 && at <= size && n >= 0 && n <= size && at+n <= size
}

// TestP122Read: each two of the edges, of each size.
func TestP122Read(t *testing.T) {
	for size := 1; size <= api.MaxSize; size++ {
		s := made(t, 512, 128, size, 128)
		text := bytesOf(size)
		writes(t, s, 1, 0, text)
		for _, at := range edges(size) {
			for _, n := range edges(size) {
				if inside(size, at, n) {
					reads(t, s, 1, at, text[at:at+n])
				} else if got, e := s.Read(1, at, n); got != "" || e != api.ErrRange {
					t.Fatalf("Read of a thing of %d bytes, %d from %d on, is %q, %v", size, n, at, got, e)
				}
			}
		}
		reads(t, s, 1, 0, text)
	}
}

// TestP122ReadAll: each piece that a thing has.
func TestP122ReadAll(t *testing.T) {
	for _, size := range []int{1, 8, 9, 16, 33} {
		s := made(t, 64, size)
		text := bytesOf(size)
		writes(t, s, 0, 0, text)
		for at := range size + 1 {
			for n := range size + 1 - at {
				reads(t, s, 0, at, text[at:at+n])
			}
		}
	}
}

// TestP122Write: texts of each length about the edges, at each edge, of each size.
func TestP122Write(t *testing.T) {
	for size := 1; size <= api.MaxSize; size++ {
		s := made(t, 512, 128, size, 128)
		want := []byte(bytesOf(size))
		writes(t, s, 1, 0, string(want))
		for i, at := range edges(size) {
			for _, n := range edges(size) {
				if n < 0 || n > 1<<10 {
					continue
				}
				text := strings.Repeat(string(rune('A'+i)), n)
				if inside(size, at, n) {
					writes(t, s, 1, at, text)
					copy(want[at:], text)
				} else if e := s.Write(1, at, text); e != api.ErrRange {
					t.Fatalf("Write of %d bytes into a thing of %d at %d is %v", n, size, at, e)
				}
				reads(t, s, 1, 0, string(want))
			}
		}
		reads(t, s, 0, 0, strings.Repeat("\x00", 128))
		reads(t, s, 2, 0, strings.Repeat("\x00", 128))
	}
}

// TestP122WriteAll: each piece that a thing has, and no byte beside it.
func TestP122WriteAll(t *testing.T) {
	for _, size := range []int{1, 8, 9, 16, 33} {
		for at := range size + 1 {
			for n := range size + 1 - at {
				s := made(t, 64, size)
				writes(t, s, 0, at, strings.Repeat("x", n))
				reads(t, s, 0, 0, strings.Repeat("\x00", at)+strings.Repeat("x", n)+strings.Repeat("\x00", size-at-n))
			}
		}
	}
}

// TestP122AnyBytes: a thing has each byte there is, as it was written.
func TestP122AnyBytes(t *testing.T) {
	s := made(t, 8, 8)
	for b := range 256 {
		text := string([]byte{byte(b), 0, byte(255 - b), byte(b), '\n', 0xff, 0xc3, byte(b)})
		writes(t, s, 0, 0, text)
		reads(t, s, 0, 0, text)
	}
}

// TestP122Empty: an empty text stands anywhere from 0 to the size, but in no slot that is free.
func TestP122Empty(t *testing.T) {
	s := made(t, 64, 10)
	writes(t, s, 0, 0, bytesOf(10))
	for _, at := range []int{0, 1, 9, 10} {
		writes(t, s, 0, at, "")
		reads(t, s, 0, at, "")
	}
	reads(t, s, 0, 0, bytesOf(10))
	for _, at := range []int{math.MinInt, -1, 11, 16, math.MaxInt} {
		noWrite(s, 0, at, "", api.ErrRange).run(t, s)
		noRead(s, 0, at, 0, api.ErrRange).run(t, s)
	}
	noWrite(s, 1, 0, "", api.ErrNone).run(t, s)
	noRead(s, 1, 0, 0, api.ErrNone).run(t, s)
}

// TestP122BelowClass: what the class has beyond the size is neither read nor written.
func TestP122BelowClass(t *testing.T) {
	for size := 1; size <= api.MaxSize; size++ {
		class := classOf(size)
		if size == class {
			continue
		}
		s := made(t, 512, size)
		for _, r := range []refused{
			noRead(s, 0, 0, size+1, api.ErrRange), noRead(s, 0, 0, class, api.ErrRange), noRead(s, 0, size, 1, api.ErrRange),
			noRead(s, 0, size+1, 0, api.ErrRange), noRead(s, 0, class, 0, api.ErrRange), noRead(s, 0, class-1, 1, api.ErrRange),
			noWrite(s, 0, 0, bytesOf(size+1), api.ErrRange), noWrite(s, 0, 0, bytesOf(class), api.ErrRange), noWrite(s, 0, size, "x", api.ErrRange),
			noWrite(s, 0, size+1, "", api.ErrRange), noWrite(s, 0, class, "", api.ErrRange), noWrite(s, 0, class-1, "x", api.ErrRange),
		} {
			r.run(t, s)
		}
		if got, is := s.Size(0); got != size || !is || s.Used() != class {
			t.Errorf("a thing of %d: Size %d, %v, %d used", size, got, is, s.Used())
		}
	}
}

// noSlots are slots that are free in a slab with three things, of which the one in slot 1 was given.
func noSlots() []int {
	return []int{math.MinInt, -1 << 32, -64, -1, 1, 3, 4, 63, 64, 8192, 1 << 32, math.MaxInt}
}

// TestP122None: no free slot has a size, or bytes; that comes ahead of where they would be.
func TestP122None(t *testing.T) {
	s := made(t, 64, 8, 16, 8)
	writes(t, s, 1, 0, "abc")
	gives(t, s, 1)
	for _, slot := range noSlots() {
		if size, is := s.Size(slot); size != 0 || is {
			t.Errorf("Size of slot %d is %d, %v", slot, size, is)
		}
		for _, at := range []int{math.MinInt, -1, 0, 8, 9, math.MaxInt} {
			for _, n := range []int{math.MinInt, -1, 0, 1, 9, math.MaxInt} {
				noRead(s, slot, at, n, api.ErrNone).run(t, s)
			}
			for _, text := range []string{"", "x", bytesOf(129)} {
				noWrite(s, slot, at, text, api.ErrNone).run(t, s)
			}
		}
	}
}

// TestP122Slots: all that are taken, rising; who changes the list changes no slab.
func TestP122Slots(t *testing.T) {
	s := made(t, api.MaxRoom)
	var want []int
	for slot := range 200 {
		takes(t, s, 8, slot)
		want = append(want, slot)
	}
	for _, slot := range []int{199, 0, 64, 63, 100, 128} {
		gives(t, s, slot)
		i := slices.Index(want, slot)
		want = slices.Delete(want, i, i+1)
		got := s.Slots()
		if !slices.Equal(got, want) {
			t.Fatalf("Slots are %v, not %v", got, want)
		}
		again := s.Slots()
		for i := range got {
			got[i] = -1
		}
		_ = append(got, 7)
		if !slices.Equal(again, want) {
			t.Fatal("what was answered before was changed")
		}
		has(t, s, api.MaxRoom, 8*len(want), want...)
	}
	takes(t, s, 8, 0)
	has(t, s, api.MaxRoom, 8*len(want)+8, append([]int{0}, want...)...)
}

// TestP122Answers: what was read stays as it was, whatever comes behind it.
func TestP122Answers(t *testing.T) {
	s := made(t, 16, 16)
	writes(t, s, 0, 0, "abcdefghijklmnop")
	got, _ := s.Read(0, 3, 5)
	writes(t, s, 0, 0, "................")
	gives(t, s, 0)
	takes(t, s, 16, 0)
	if got != "defgh" {
		t.Errorf("what was read is %q now", got)
	}
}

// TestNil: each call of nil, and of a slab that New did not make, ahead of all else; it does nothing.
func TestNil(t *testing.T) {
	for _, s := range []*slab.Slab{nil, new(slab.Slab), {}} {
		for range 2 {
			for _, r := range []refused{
				noTake(s, 8, api.ErrNil), noTake(s, 0, api.ErrNil), noTake(s, -1, api.ErrNil), noTake(s, 129, api.ErrNil),
				noGive(s, 0, api.ErrNil), noGive(s, -1, api.ErrNil), noGive(s, math.MaxInt, api.ErrNil),
				noRead(s, 0, 0, 0, api.ErrNil), noRead(s, -1, 0, 0, api.ErrNil), noRead(s, 0, -1, math.MaxInt, api.ErrNil),
				noWrite(s, 0, 0, "", api.ErrNil), noWrite(s, -1, 0, "x", api.ErrNil), noWrite(s, 0, math.MaxInt, "x", api.ErrNil),
			} {
				r.run(t, s)
			}
			for _, slot := range []int{math.MinInt, -1, 0, 1, math.MaxInt} {
				if size, is := s.Size(slot); size != 0 || is {
					t.Errorf("Size of slot %d of no slab is %d, %v", slot, size, is)
				}
			}
			has(t, s, 0, 0)
		}
	}
}

// TestFirstErrors: of several that apply, the one that the promise names first.
func TestFirstErrors(t *testing.T) {
	full := made(t, 8, 8)
	for _, r := range []refused{
		noTake(full, 0, api.ErrArg), noTake(full, -1, api.ErrArg), noTake(full, 129, api.ErrArg), noTake(full, 128, api.ErrFull), noTake(full, 1, api.ErrFull),
		noRead(full, 1, -1, -1, api.ErrNone), noRead(full, 0, -1, -1, api.ErrRange), noRead(full, -1, math.MaxInt, math.MaxInt, api.ErrNone),
		noWrite(full, 1, -1, "x", api.ErrNone), noWrite(full, 0, -1, "x", api.ErrRange), noWrite(full, -1, 8, "x", api.ErrNone), noWrite(full, 0, 8, "x", api.ErrRange),
	} {
		r.run(t, full)
	}
}
