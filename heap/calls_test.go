package heap_test

import (
	"math"
	"slices"
	"strings"
	"testing"

	"warden/api"
	"warden/heap"
	"warden/slab"
)

// textOf are n bytes that all differ from each other, and from 0.
func textOf(n int) string {
	b := make([]byte, n)
	for i := range b {
		b[i] = byte(i + 1)
	}
	return string(b)
}

// TestP142Counts: up and down again, however often; what others are held by stays.
func TestP142Counts(t *testing.T) {
	x := made(t, 64, 8, 8, 8)
	h := api.Handle{Slot: 1, Gen: 1}
	for count := range 1000 {
		holds(t, x, h, count+2)
	}
	for count := range 1001 {
		drops(t, x, h, 1000-count)
	}
	for _, slot := range []int{0, 2} {
		tells(t, x, object{api.Handle{Slot: slot, Gen: 1}, 100 + slot, 1, strings.Repeat("\x00", 8)})
	}
	has(t, x, 64, 24, api.Handle{Slot: 0, Gen: 1}, h, api.Handle{Slot: 2, Gen: 1})
}

// TestP142CountZero: one that nobody holds lives on, with all that it has, till it is freed; it may be held again.
func TestP142CountZero(t *testing.T) {
	x := made(t, 32, 8)
	h := makes(t, x, -7, 10, 1, 1)
	writes(t, x, h, 0, textOf(10))
	for range 3 {
		drops(t, x, h, 0)
		refuses(t, x, noDrop(x, h, api.ErrState), noDrop(x, h, api.ErrState))
		tells(t, x, object{h, -7, 0, textOf(10)})
		has(t, x, 32, 24, api.Handle{Slot: 0, Gen: 1}, h)
		holds(t, x, h, 1)
		tells(t, x, object{h, -7, 1, textOf(10)})
		refuses(t, x, noFree(x, h, api.ErrState))
	}
	drops(t, x, h, 0)
	writes(t, x, h, 3, "abc")
	reads(t, x, h, 2, "\x03abc\x07")
	if e := x.Free(h); e != api.OK {
		t.Fatal("Free is", e)
	}
	stale(t, x, h)
}

// TestP142Free: not while the count is above 0, however great it is.
func TestP142Free(t *testing.T) {
	for _, most := range []int{1, 2, 3, 10, 300} {
		x := made(t, 40, 8)
		h := makes(t, x, 1, 20, 1, 1)
		for count := 2; count <= most; count++ {
			holds(t, x, h, count)
			refuses(t, x, noFree(x, h, api.ErrState))
		}
		for count := most; count > 0; count-- {
			refuses(t, x, noFree(x, h, api.ErrState))
			drops(t, x, h, count-1)
		}
		has(t, x, 40, 40, api.Handle{Slot: 0, Gen: 1}, h)
		if e := x.Free(h); e != api.OK {
			t.Fatal("Free is", e)
		}
		has(t, x, 40, 8, api.Handle{Slot: 0, Gen: 1})
		stale(t, x, h)
		has(t, x, 40, 40, api.Handle{Slot: 0, Gen: 1}, makes(t, x, 2, 32, 1, 2))
	}
}

// never are handles that no heap makes, and such as one with a few objects hasn't made.
func never() []api.Handle {
	out := []api.Handle{{}}
	for _, slot := range []int{math.MinInt, -1 << 32, -64, -3, -2, -1} {
		for _, number := range []uint64{0, 1, 2, 3, math.MaxUint64} {
			out = append(out, api.Handle{Slot: slot, Gen: number})
		}
	}
	for _, slot := range []int{0, 1, 2} {
		out = append(out, api.Handle{Slot: slot}, api.Handle{Slot: slot, Gen: 7}, api.Handle{Slot: slot, Gen: 1<<32 + 1}, api.Handle{Slot: slot, Gen: math.MaxUint64})
	}
	for _, slot := range []int{3, 64, 8192, 1 << 32, math.MaxInt} {
		out = append(out, api.Handle{Slot: slot}, api.Handle{Slot: slot, Gen: 1}, api.Handle{Slot: slot, Gen: 2})
	}
	return out
}

// TestP142Never: handles that never were made, in a heap without objects, with some, and with some that were freed.
func TestP142Never(t *testing.T) {
	empty := made(t, 0)
	stale(t, empty, never()...)
	x := made(t, 64, 8, 8, 8)
	stale(t, x, never()...)
	stale(t, x, api.Handle{Slot: 0, Gen: 2}, api.Handle{Slot: 1, Gen: 2})
	frees(t, x, api.Handle{Slot: 0, Gen: 1}, api.Handle{Slot: 1, Gen: 1})
	stale(t, x, never()...)
	makes(t, x, 1, 8, 0, 2)
	stale(t, x, never()...)
	stale(t, x, api.Handle{Slot: 0, Gen: 3}, api.Handle{Slot: 1, Gen: 2})
}

// TestP142Stale: of those that had a slot just the last one is of use, and none once it is freed.
func TestP142Stale(t *testing.T) {
	x := made(t, 48, 8)
	var gone []api.Handle
	for number := uint64(1); number < 8; number++ {
		stale(t, x, gone...)
		h := makes(t, x, int(number), 9+int(number), 1, number)
		writes(t, x, h, 0, textOf(9+int(number)))
		holds(t, x, h, 2)
		stale(t, x, gone...)
		stale(t, x, api.Handle{Slot: 1, Gen: number + 1})
		tells(t, x, object{h, int(number), 2, textOf(9 + int(number))})
		frees(t, x, h)
		gone = append(gone, h)
	}
	stale(t, x, gone...)
	has(t, x, 48, 8, api.Handle{Slot: 0, Gen: 1})
}

// edges are places ahead of, in, and behind an object of that size, and such that their sum with others goes round.
func edges(size int) []int {
	l := []int{
		math.MinInt, math.MinInt + 1, math.MinInt + size, -1 << 32, -size - 1, -size, -1, 0, 1, size / 2, size - 1, size, size + 1,
		8, 16, 32, 64, 128, 129, 1 << 31, 1 << 32, math.MaxInt - size, math.MaxInt - 1, math.MaxInt,
	}
	slices.Sort(l)
	return slices.Compact(l)
}

// twins are a heap and a slab with things of the same sizes in the same slots, the middle one of that size, and with the same bytes in it.
func twins(t *testing.T, size int) (*heap.Heap, api.Handle, *slab.Slab) {
	t.Helper()
	x := made(t, 512, 128, size, 128)
	s, _ := slab.New(512)
	for _, n := range []int{128, size, 128} {
		s.Take(n)
	}
	h := api.Handle{Slot: 1, Gen: 1}
	writes(t, x, h, 0, textOf(size))
	s.Write(1, 0, textOf(size))
	return x, h, s
}

// TestP142ReadLikeSlab: each two of the edges, of each size.
func TestP142ReadLikeSlab(t *testing.T) {
	for size := 1; size <= api.MaxSize; size++ {
		x, h, s := twins(t, size)
		for _, at := range edges(size) {
			for _, n := range edges(size) {
				want, f := s.Read(1, at, n)
				if got, e := x.Read(h, at, n); got != want || e != f {
					t.Fatalf("Read of %d bytes from %d on, of %d, is %q, %v, not %q, %v", n, at, size, got, e, want, f)
				}
			}
		}
		tells(t, x, object{h, 101, 1, textOf(size)})
	}
}

// TestP142WriteLikeSlab: texts of each length about the edges, at each edge, of each size; no other object is changed.
func TestP142WriteLikeSlab(t *testing.T) {
	for size := 1; size <= api.MaxSize; size++ {
		x, h, s := twins(t, size)
		for i, at := range edges(size) {
			for _, n := range edges(size) {
				if n < 0 || n > 256 {
					continue
				}
				text := strings.Repeat(string(rune('A'+i)), n)
				want := s.Write(1, at, text)
				if e := x.Write(h, at, text); e != want {
					t.Fatalf("Write of %d bytes at %d, of %d, is %v, not %v", n, at, size, e, want)
				}
				bytes, _ := s.Read(1, 0, size)
				reads(t, x, h, 0, bytes)
			}
		}
		for _, slot := range []int{0, 2} {
			tells(t, x, object{api.Handle{Slot: slot, Gen: 1}, 100 + slot, 1, strings.Repeat("\x00", 128)})
		}
	}
}

// TestP142Range: what the slab refuses has its error, and changes nothing; up to the very end all may be read and written.
func TestP142Range(t *testing.T) {
	x := made(t, 64, 8, 10, 8)
	h := api.Handle{Slot: 1, Gen: 1}
	writes(t, x, h, 0, textOf(10))
	reads(t, x, h, 0, textOf(10))
	reads(t, x, h, 9, "\x0a")
	reads(t, x, h, 10, "")
	writes(t, x, h, 10, "")
	refuses(t, x,
		noRead(x, h, 0, 11, api.ErrRange), noRead(x, h, 0, 16, api.ErrRange), noRead(x, h, 9, 2, api.ErrRange), noRead(x, h, 10, 1, api.ErrRange),
		noRead(x, h, 11, 0, api.ErrRange), noRead(x, h, -1, 0, api.ErrRange), noRead(x, h, 0, -1, api.ErrRange), noRead(x, h, -1, 2, api.ErrRange),
		noRead(x, h, 5, -1, api.ErrRange), noRead(x, h, math.MaxInt, math.MaxInt, api.ErrRange), noRead(x, h, math.MinInt, math.MinInt, api.ErrRange),
		noWrite(x, h, 0, textOf(11), api.ErrRange), noWrite(x, h, 9, "ab", api.ErrRange), noWrite(x, h, 10, "a", api.ErrRange),
		noWrite(x, h, 11, "", api.ErrRange), noWrite(x, h, -1, "", api.ErrRange), noWrite(x, h, -1, "ab", api.ErrRange),
		noWrite(x, h, math.MaxInt, "a", api.ErrRange), noWrite(x, h, math.MinInt, "a", api.ErrRange),
	)
	writes(t, x, h, 8, "yz")
	reads(t, x, h, 0, "\x01\x02\x03\x04\x05\x06\x07\x08yz")
}

// TestP142ReadStays: what was read stays as it was, whatever comes behind it.
func TestP142ReadStays(t *testing.T) {
	x := made(t, 16, 16)
	h := api.Handle{Gen: 1}
	writes(t, x, h, 0, "abcdefghijklmnop")
	got, _ := x.Read(h, 3, 5)
	writes(t, x, h, 0, "................")
	frees(t, x, h)
	makes(t, x, 1, 16, 0, 2)
	if got != "defgh" {
		t.Errorf("what was read is %q now", got)
	}
}

// orders calls with each order of each choice among n slots.
func orders(n int, call func(slots []int)) {
	var more func(chosen []int)
	more = func(chosen []int) {
		call(slices.Clone(chosen))
		for slot := range n {
			if !slices.Contains(chosen, slot) {
				more(append(slices.Clone(chosen), slot))
			}
		}
	}
	more(nil)
}

// TestP142LiveOrder: whichever were freed, in whatever order, and made anew, all that live are told by rising slots, and none else.
func TestP142LiveOrder(t *testing.T) {
	const n = 5
	orders(n, func(freed []int) {
		x := made(t, 64, 8, 8, 8, 8, 8)
		numbers := [n]uint64{1, 1, 1, 1, 1}
		told := func() {
			t.Helper()
			var want []api.Handle
			for slot, number := range numbers {
				if number > 0 {
					want = append(want, api.Handle{Slot: slot, Gen: number})
				}
			}
			has(t, x, 64, 8*len(want), want...)
		}
		for _, slot := range freed {
			h := api.Handle{Slot: slot, Gen: 1}
			drops(t, x, h, 0)
			told()
			if e := x.Free(h); e != api.OK {
				t.Fatalf("Free of %v is %v", h, e)
			}
			numbers[slot] = 0
			told()
		}
		slices.Sort(freed)
		for _, slot := range freed {
			makes(t, x, 1, 8, slot, 2)
			numbers[slot] = 2
			told()
		}
	})
}

// TestP142LiveIsNew: who changes a list that was answered changes neither the heap nor another list.
func TestP142LiveIsNew(t *testing.T) {
	x := made(t, 64, 8, 8, 8)
	want := []api.Handle{{Slot: 0, Gen: 1}, {Slot: 1, Gen: 1}, {Slot: 2, Gen: 1}}
	got, again := x.Live(), x.Live()
	for i := range got {
		got[i] = api.Handle{Slot: 9, Gen: 9}
	}
	_ = append(got[:1], api.Handle{Slot: 8, Gen: 8})
	_ = append(got, api.Handle{Slot: 7, Gen: 7})
	has(t, x, 64, 24, want...)
	stale(t, x, api.Handle{Slot: 9, Gen: 9})
	frees(t, x, want[1])
	makes(t, x, 1, 8, 1, 2)
	if !slices.Equal(again, want) {
		t.Fatal("another list was changed to", again)
	}
}

// TestP142Room: it is what New was given, whatever is used of it; what is used are the classes of all that live.
func TestP142Room(t *testing.T) {
	for _, room := range []int{248, 249, 1000, api.MaxRoom} {
		x := made(t, room)
		used := 0
		for slot, size := range []int{3, 12, 17, 64, 128} {
			makes(t, x, 1, size, slot, 1)
			used += []int{8, 16, 32, 64, 128}[slot]
			if x.Used() != used || x.Room() != room {
				t.Fatalf("%d of %d are used, not %d of %d", x.Used(), x.Room(), used, room)
			}
		}
		for slot, class := range []int{8, 16, 32, 64, 128} {
			frees(t, x, api.Handle{Slot: slot, Gen: 1})
			used -= class
			if x.Used() != used || x.Room() != room {
				t.Fatalf("%d of %d are used, not %d of %d", x.Used(), x.Room(), used, room)
			}
		}
		has(t, x, room, 0)
	}
}

// TestNil: each call of nil, and of a heap that New did not make, ahead of all else; it does nothing.
func TestNil(t *testing.T) {
	for _, x := range []*heap.Heap{nil, new(heap.Heap), {}} {
		for range 2 {
			for _, size := range []int{math.MinInt, -1, 0, 1, 8, 128, 129, math.MaxInt} {
				refuses(t, x, noMake(x, 1, size, api.ErrNil), noMake(x, -1, size, api.ErrNil))
			}
			for _, h := range append(never(), api.Handle{Gen: 1}, api.Handle{Slot: 1, Gen: 1}) {
				unknown(t, x, h)
				refuses(t, x, allOf(x, h, api.ErrNil)...)
			}
			has(t, x, 0, 0)
		}
	}
}

// TestFirstErrors: of several that apply, the one that the promise names first.
func TestFirstErrors(t *testing.T) {
	x := made(t, 16, 8, 8)
	held, free := api.Handle{Slot: 0, Gen: 1}, api.Handle{Slot: 1, Gen: 1}
	drops(t, x, free, 0)
	refuses(t, x,
		noMake(x, 1, 0, api.ErrArg), noMake(x, 1, 129, api.ErrArg), noMake(x, 1, 128, api.ErrFull),
		noFree(x, held, api.ErrState), noDrop(x, free, api.ErrState),
		noRead(x, held, -1, -1, api.ErrRange), noWrite(x, free, 8, "x", api.ErrRange),
	)
	frees(t, x, held)
	refuses(t, x, noFree(x, held, api.ErrStale), noDrop(x, held, api.ErrStale), noRead(x, held, -1, -1, api.ErrStale), noWrite(x, held, 8, "x", api.ErrStale))
	again := makes(t, x, 1, 8, 0, 2)
	refuses(t, x, noFree(x, held, api.ErrStale), noDrop(x, held, api.ErrStale), noRead(x, held, -1, -1, api.ErrStale), noWrite(x, held, 8, "x", api.ErrStale))
	drops(t, x, again, 0)
	refuses(t, x, noFree(x, held, api.ErrStale), noDrop(x, held, api.ErrStale))
}

// TestHeapsApart: what is done to one heap makes no difference to another one.
func TestHeapsApart(t *testing.T) {
	x, y := made(t, 64, 8, 8), made(t, 128, 8)
	if x == y {
		t.Fatal("New answers one heap twice")
	}
	a, b := api.Handle{Slot: 0, Gen: 1}, api.Handle{Slot: 1, Gen: 1}
	was := stateOf(t, y)
	writes(t, x, a, 0, "abcdefgh")
	holds(t, x, a, 2)
	holds(t, x, a, 3)
	stale(t, y, b)
	frees(t, x, a)
	again := makes(t, x, 5, 16, 0, 2)
	if !stateOf(t, y).equal(was) {
		t.Fatalf("what was done to another heap made %v of %v", stateOf(t, y), was)
	}
	stale(t, y, again)
	frees(t, y, a)
	has(t, y, 128, 0)
	has(t, x, 64, 24, again, b)
	tells(t, x, object{again, 5, 1, strings.Repeat("\x00", 16)})
}
