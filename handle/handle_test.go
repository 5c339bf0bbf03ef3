package handle_test

import (
	"math"
	"slices"
	"testing"

	"warden/api"
	"warden/handle"
)

// makes holds that the slot's next handle has that number, and that it lives.
func makes(t *testing.T, x *handle.Table, slot int, number uint64) api.Handle {
	t.Helper()
	want := api.Handle{Slot: slot, Gen: number}
	if got, e := x.Make(slot); got != want || e != api.OK {
		t.Fatalf("Make of %d is %v, %v, not %v", slot, got, e, want)
	}
	lives(t, x, want)
	return want
}

// drops holds that the handles may be dropped, and that none of them lives then.
func drops(t *testing.T, x *handle.Table, handles ...api.Handle) {
	t.Helper()
	for _, h := range handles {
		if e := x.Drop(h); e != api.OK {
			t.Fatalf("Drop of %v is %v", h, e)
		}
		stale(t, x, h)
		vacant(t, x, h.Slot)
	}
}

// lives holds that the handles are the ones of their slots.
func lives(t *testing.T, x *handle.Table, handles ...api.Handle) {
	t.Helper()
	for _, h := range handles {
		if !x.Lives(h) {
			t.Fatalf("%v does not live", h)
		}
		if got, is := x.Of(h.Slot); got != h || !is {
			t.Fatalf("Of %d is %v, %v, not %v", h.Slot, got, is, h)
		}
	}
}

// stale holds that none of the handles lives, that none can be dropped, and that who tries changes nothing.
func stale(t *testing.T, x *handle.Table, handles ...api.Handle) {
	t.Helper()
	before := x.All()
	for _, h := range handles {
		if x.Lives(h) {
			t.Fatalf("%v lives", h)
		}
		if e := x.Drop(h); e != api.ErrStale {
			t.Fatalf("Drop of %v, that does not live, is %v", h, e)
		}
	}
	has(t, x, before...)
}

// vacant holds that none of the slots has a handle that lives.
func vacant(t *testing.T, x *handle.Table, slots ...int) {
	t.Helper()
	for _, slot := range slots {
		if got, is := x.Of(slot); got != (api.Handle{}) || is {
			t.Fatalf("Of %d is %v, %v, though it has none", slot, got, is)
		}
	}
}

// refuses holds that no handle is made of the slot, and that the call changes nothing.
func refuses(t *testing.T, x *handle.Table, slot int, want api.Errno) {
	t.Helper()
	before := x.All()
	was, had := x.Of(slot)
	if got, e := x.Make(slot); got != (api.Handle{}) || e != want {
		t.Fatalf("Make of %d is %v, %v, not %v", slot, got, e, want)
	}
	if got, is := x.Of(slot); got != was || is != had {
		t.Fatalf("a Make that was refused changed slot %d from %v, %v to %v, %v", slot, was, had, got, is)
	}
	has(t, x, before...)
}

// has holds which handles live: these, in this order.
func has(t *testing.T, x *handle.Table, want ...api.Handle) {
	t.Helper()
	if got := x.All(); !slices.Equal(got, want) {
		t.Fatalf("All are %v, not %v", got, want)
	}
	lives(t, x, want...)
}

// great are slots as far from 0 as there are, and some on the way there.
func great() []int {
	return []int{0, 1, 63, 64, 8191, 8192, 1<<16 - 1, 1 << 16, math.MaxInt32, 1 << 31, math.MaxUint32, 1 << 32, 1<<32 + 1, 1 << 62, math.MaxInt - 1, math.MaxInt}
}

// below are slots below 0.
func below() []int {
	return []int{-1, -2, -63, -64, -1 << 16, math.MinInt32, math.MinInt32 - 1, -1 << 32, math.MinInt + 1, math.MinInt}
}

func TestExample(t *testing.T) {
	x := handle.New()
	first := makes(t, x, 3, 1)
	drops(t, x, first)
	second := makes(t, x, 3, 2)
	stale(t, x, first)
	has(t, x, second)
}

func TestP131New(t *testing.T) {
	x := handle.New()
	if x == nil {
		t.Fatal("New is nil")
	}
	has(t, x)
	vacant(t, x, great()...)
	vacant(t, x, below()...)
	stale(t, x, api.Handle{}, api.Handle{Gen: 1}, api.Handle{Slot: 1}, api.Handle{Slot: -1, Gen: 1})
}

// TestP131Great: slots may be as great as they are; they are no more to the table than others.
func TestP131Great(t *testing.T) {
	x := handle.New()
	var all []api.Handle
	for _, slot := range great() {
		all = append(all, makes(t, x, slot, 1))
		has(t, x, all...)
	}
	for _, slot := range great() {
		refuses(t, x, slot, api.ErrThere)
	}
	drops(t, x, all...)
	has(t, x)
	for _, slot := range great() {
		makes(t, x, slot, 2)
	}
	stale(t, x, all...)
}

// noneBelow holds that no slot below 0 has a handle, or gets one.
func noneBelow(t *testing.T, x *handle.Table) {
	t.Helper()
	for _, slot := range below() {
		refuses(t, x, slot, api.ErrArg)
		vacant(t, x, slot)
		stale(t, x, api.Handle{Slot: slot}, api.Handle{Slot: slot, Gen: 1}, api.Handle{Slot: slot, Gen: math.MaxUint64})
	}
}

// TestP131Below: that is so whatever other slots have, and however often it is tried.
func TestP131Below(t *testing.T) {
	x := handle.New()
	noneBelow(t, x)
	a, b, c := makes(t, x, 0, 1), makes(t, x, 1, 1), makes(t, x, math.MaxInt, 1)
	noneBelow(t, x)
	has(t, x, a, b, c)
	drops(t, x, a, c)
	noneBelow(t, x)
	has(t, x, b)
}

// TestP131There: while a slot's handle lives it has no other one; a Make that is refused takes no number.
func TestP131There(t *testing.T) {
	x := handle.New()
	for number := range uint64(5) {
		h := makes(t, x, 7, number+1)
		for range 3 {
			refuses(t, x, 7, api.ErrThere)
			lives(t, x, h)
		}
		refuses(t, x, -7, api.ErrArg)
		makes(t, x, 8, number+1)
		refuses(t, x, 7, api.ErrThere)
		drops(t, x, h, api.Handle{Slot: 8, Gen: number + 1})
	}
}

// TestP131Numbers: a slot's numbers go from 1 on, each one more than the last one's, however many there were.
func TestP131Numbers(t *testing.T) {
	x := handle.New()
	for number := range uint64(70000) {
		h := api.Handle{Slot: 5, Gen: number + 1}
		if got, e := x.Make(5); got != h || e != api.OK {
			t.Fatalf("Make is %v, %v, not %v", got, e, h)
		}
		if e := x.Drop(h); e != api.OK {
			t.Fatalf("Drop of %v is %v", h, e)
		}
	}
	vacant(t, x, 5)
	makes(t, x, 5, 70001)
	makes(t, x, 6, 1)
}

// TestP131NumbersApart: each slot counts for itself, whatever others do meanwhile.
func TestP131NumbersApart(t *testing.T) {
	x := handle.New()
	slots := []int{0, 1, 2, 64, 65, 1 << 32, math.MaxInt}
	var made [7]uint64
	for round := range 60 {
		for i, slot := range slots {
			if round%(i+1) > 0 {
				continue
			}
			if h, is := x.Of(slot); is {
				drops(t, x, h)
			}
			made[i]++
			makes(t, x, slot, made[i])
		}
	}
	if made != [7]uint64{60, 30, 20, 15, 12, 10, 9} {
		t.Fatal("so many were made:", made)
	}
	for i, slot := range slots {
		lives(t, x, api.Handle{Slot: slot, Gen: made[i]})
		refuses(t, x, slot, api.ErrThere)
	}
}

// notOf are handles of which none is the one of that slot and number: each differs from it by its number, or by its slot, or by both.
func notOf(slot int, number uint64) []api.Handle {
	var out []api.Handle
	for _, s := range []int{slot, slot + 1, slot - 1, -slot, -slot - 1, 0, -1, slot + 1<<32, math.MinInt, math.MaxInt} {
		for _, n := range []uint64{0, 1, number - 1, number, number + 1, number + 2, number + 1<<32, 1 << 63, math.MaxUint64} {
			if s != slot || n != number {
				out = append(out, api.Handle{Slot: s, Gen: n})
			}
		}
	}
	return out
}

// TestP131Drop: just the handle that lives may be dropped: not one ahead of it, not one behind it, not one of another slot.
func TestP131Drop(t *testing.T) {
	for _, slot := range []int{0, 1, 3, 64, 1 << 20} {
		x := handle.New()
		for number := uint64(1); number <= 6; number++ {
			stale(t, x, api.Handle{Slot: slot, Gen: number})
			h := makes(t, x, slot, number)
			stale(t, x, notOf(slot, number)...)
			has(t, x, h)
			drops(t, x, h)
			stale(t, x, h)
			stale(t, x, notOf(slot, number)...)
			has(t, x)
		}
	}
}

// TestP131DropOne: the others live on.
func TestP131DropOne(t *testing.T) {
	for gone := range 5 {
		x := handle.New()
		var rest []api.Handle
		for slot := range 5 {
			if h := makes(t, x, slot, 1); slot != gone {
				rest = append(rest, h)
			}
		}
		drops(t, x, api.Handle{Slot: gone, Gen: 1})
		has(t, x, rest...)
		has(t, x, rest...)
		makes(t, x, gone, 2)
		lives(t, x, rest...)
	}
}

// TestZeroHandle: no call makes it, so it never lives: not where slot 0 has none, nor where it has one, nor where that one was dropped.
func TestZeroHandle(t *testing.T) {
	x := handle.New()
	stale(t, x, api.Handle{})
	h := makes(t, x, 0, 1)
	stale(t, x, api.Handle{})
	drops(t, x, h)
	stale(t, x, api.Handle{})
	makes(t, x, 1, 1)
	stale(t, x, api.Handle{}, api.Handle{Slot: 1}, api.Handle{Slot: 2})
	makes(t, x, 0, 2)
	stale(t, x, api.Handle{})
}

func TestP132Of(t *testing.T) {
	x := handle.New()
	a, b := makes(t, x, 2, 1), makes(t, x, 9, 1)
	lives(t, x, a, b)
	vacant(t, x, 0, 1, 3, 8, 10, -2, -9, math.MaxInt, math.MinInt)
	drops(t, x, a)
	vacant(t, x, 2)
	lives(t, x, b)
	lives(t, x, makes(t, x, 2, 2), b)
	has(t, x, api.Handle{Slot: 2, Gen: 2}, b)
}

// orders calls with each order of the slots.
func orders(slots []int, call func(order []int)) {
	var more func(chosen []int)
	more = func(chosen []int) {
		if len(chosen) == len(slots) {
			call(slices.Clone(chosen))
		}
		for _, slot := range slots {
			if !slices.Contains(chosen, slot) {
				more(append(slices.Clone(chosen), slot))
			}
		}
	}
	more(nil)
}

// TestP132AllOrder: whatever the order in which they were made and dropped, they are told by rising slots.
func TestP132AllOrder(t *testing.T) {
	orders([]int{0, 2, 10, 64, 1 << 32, math.MaxInt}, func(order []int) {
		x := handle.New()
		var want []int
		for _, slot := range order {
			makes(t, x, slot, 1)
			want = append(want, slot)
			slices.Sort(want)
			toldSlots(t, x, want)
		}
		for _, slot := range order {
			drops(t, x, api.Handle{Slot: slot, Gen: 1})
			want = slices.DeleteFunc(want, func(s int) bool { return s == slot })
			toldSlots(t, x, want)
		}
	})
}

// toldSlots holds of which slots All tells, and that each is number 1.
func toldSlots(t *testing.T, x *handle.Table, slots []int) {
	t.Helper()
	var want []api.Handle
	for _, slot := range slots {
		want = append(want, api.Handle{Slot: slot, Gen: 1})
	}
	has(t, x, want...)
}

// TestP132AllBySlots: it is the slot that counts, not the number, nor which one was made first.
func TestP132AllBySlots(t *testing.T) {
	x := handle.New()
	for number := range uint64(9) {
		drops(t, x, makes(t, x, 4, number+1))
	}
	drops(t, x, makes(t, x, 6, 1))
	e, d := makes(t, x, 6, 2), makes(t, x, 5, 1)
	c := makes(t, x, 4, 10)
	a := makes(t, x, 0, 1)
	has(t, x, a, c, d, e)
	drops(t, x, d)
	has(t, x, a, c, e)
}

// TestP132AllMany: thousands of slots, made from the last one on; each third one is dropped.
func TestP132AllMany(t *testing.T) {
	const n = 5000
	x := handle.New()
	for slot := n - 1; slot >= 0; slot-- {
		makes(t, x, slot, 1)
	}
	var want []api.Handle
	for slot := range n {
		h := api.Handle{Slot: slot, Gen: 1}
		if slot%3 > 0 {
			want = append(want, h)
		} else if e := x.Drop(h); e != api.OK {
			t.Fatalf("Drop of %v is %v", h, e)
		}
	}
	has(t, x, want...)
}

// TestP132AllIsNew: who changes a list that was answered changes neither the table nor another list.
func TestP132AllIsNew(t *testing.T) {
	x := handle.New()
	a, b, c := makes(t, x, 1, 1), makes(t, x, 2, 1), makes(t, x, 3, 1)
	got, again := x.All(), x.All()
	for i := range got {
		got[i] = api.Handle{Slot: -1, Gen: 99}
	}
	_ = append(got, api.Handle{Slot: 5, Gen: 5})
	_ = append(got[:1], api.Handle{Slot: 6, Gen: 6})
	if !slices.Equal(again, []api.Handle{a, b, c}) {
		t.Fatal("another list was changed to", again)
	}
	has(t, x, a, b, c)
	drops(t, x, b)
	makes(t, x, 0, 1)
	if !slices.Equal(again, []api.Handle{a, b, c}) {
		t.Fatal("the table changed what it had answered to", again)
	}
}

// TestNil: each call of nil, and of a table that New did not make, ahead of all else; it does nothing.
func TestNil(t *testing.T) {
	for _, x := range []*handle.Table{nil, new(handle.Table), {}} {
		for range 2 {
			for _, slot := range append(great(), below()...) {
				refuses(t, x, slot, api.ErrNil)
				vacant(t, x, slot)
				for _, number := range []uint64{0, 1, 2, math.MaxUint64} {
					h := api.Handle{Slot: slot, Gen: number}
					if e := x.Drop(h); e != api.ErrNil || x.Lives(h) {
						t.Fatalf("%v of no table: Drop is %v, Lives %v", h, e, x.Lives(h))
					}
				}
			}
			has(t, x)
		}
	}
}

// TestTablesApart: what is done to one table makes no difference to another one.
func TestTablesApart(t *testing.T) {
	x, y := handle.New(), handle.New()
	if x == y {
		t.Fatal("New answers one table twice")
	}
	drops(t, x, makes(t, x, 3, 1))
	a := makes(t, x, 3, 2)
	has(t, y)
	vacant(t, y, 3)
	stale(t, y, a, api.Handle{Slot: 3, Gen: 1})
	b := makes(t, y, 3, 1)
	stale(t, x, b)
	stale(t, y, a)
	has(t, x, a)
	has(t, y, b)
	drops(t, x, a)
	has(t, y, b)
	makes(t, x, 3, 3)
	drops(t, y, b)
	makes(t, y, 3, 2)
	has(t, handle.New())
}
