package handle_test

// The chapter's words written out again, in another way: all that was done is kept in a row, and what is asked is read out of it. Held against the package over all short rows of calls, and over long ones that are drawn; and what follows of them.

import (
	"math/rand/v2"
	"slices"
	"testing"

	"warden/api"
	"warden/handle"
)

// words are all handles that were ever made, in the order in which they were, and whether each was dropped.
type words struct {
	made    []api.Handle
	dropped []bool
}

func (w *words) at(h api.Handle) int {
	return slices.Index(w.made, h)
}

func (w *words) lives(h api.Handle) bool {
	at := w.at(h)
	return at >= 0 && !w.dropped[at]
}

func (w *words) of(slot int) (api.Handle, bool) {
	for _, h := range w.made {
		if h.Slot == slot && w.lives(h) {
			return h, true
		}
	}
	return api.Handle{}, false
}

func (w *words) make(slot int) (api.Handle, api.Errno) {
	if slot < 0 {
		return api.Handle{}, api.ErrArg
	}
	if _, is := w.of(slot); is {
		return api.Handle{}, api.ErrThere
	}
	h := api.Handle{Slot: slot, Gen: 1}
	for w.at(h) >= 0 {
		h.Gen++
	}
	w.made, w.dropped = append(w.made, h), append(w.dropped, false)
	return h, api.OK
}

func (w *words) drop(h api.Handle) api.Errno {
	if !w.lives(h) {
		return api.ErrStale
	}
	w.dropped[w.at(h)] = true
	return api.OK
}

func (w *words) all() []api.Handle {
	out := slices.DeleteFunc(slices.Clone(w.made), func(h api.Handle) bool { return !w.lives(h) })
	slices.SortFunc(out, func(a, b api.Handle) int { return a.Slot - b.Slot })
	return out
}

// both is a table and what the words say of it.
type both struct {
	x *handle.Table
	w *words
}

func bothOf() both {
	return both{handle.New(), &words{}}
}

func (b both) make(t *testing.T, slot int) {
	t.Helper()
	h, e := b.x.Make(slot)
	if slices.Contains(b.w.made, h) {
		t.Fatalf("Make of %d answers %v, that was made before", slot, h)
	}
	if want, f := b.w.make(slot); h != want || e != f {
		t.Fatalf("Make of %d is %v, %v, not %v, %v", slot, h, e, want, f)
	}
}

func (b both) drop(t *testing.T, h api.Handle) {
	t.Helper()
	e := b.x.Drop(h)
	if f := b.w.drop(h); e != f {
		t.Fatalf("Drop of %v is %v, not %v", h, e, f)
	}
}

// same holds all that the table tells of these slots, and of each handle that was ever made, against the words.
func (b both) same(t *testing.T, slots int) {
	t.Helper()
	if got, want := b.x.All(), b.w.all(); !slices.Equal(got, want) {
		t.Fatalf("All are %v, not %v", got, want)
	}
	for slot := -1; slot <= slots; slot++ {
		h, is := b.x.Of(slot)
		if want, has := b.w.of(slot); h != want || is != has {
			t.Fatalf("Of %d is %v, %v, not %v, %v", slot, h, is, want, has)
		}
		for _, h := range []api.Handle{{Slot: slot}, {Slot: slot, Gen: 1}, {Slot: slot, Gen: h.Gen + 1}} {
			b.sameOf(t, h)
		}
	}
	for _, h := range b.w.made {
		b.sameOf(t, h)
	}
}

func (b both) sameOf(t *testing.T, h api.Handle) {
	t.Helper()
	if got, want := b.x.Lives(h), b.w.lives(h); got != want {
		t.Fatalf("Lives of %v is %v, not %v", h, got, want)
	}
}

// TestWordsShort: all rows of six calls out of nine.
func TestWordsShort(t *testing.T) {
	calls := []func(b both){
		func(b both) { b.make(t, 0) },
		func(b both) { b.make(t, 1) },
		func(b both) { b.make(t, -1) },
		func(b both) { b.drop(t, api.Handle{Slot: 0, Gen: 1}) },
		func(b both) { b.drop(t, api.Handle{Slot: 0, Gen: 2}) },
		func(b both) { b.drop(t, api.Handle{Slot: 1, Gen: 1}) },
		func(b both) { b.drop(t, api.Handle{Slot: 1, Gen: 2}) },
		func(b both) { b.drop(t, api.Handle{}) },
		func(b both) { b.drop(t, api.Handle{Slot: -1, Gen: 1}) },
	}
	const long = 6
	all := 1
	for range long {
		all *= len(calls)
	}
	for row := range all {
		b := bothOf()
		for range long {
			calls[row%len(calls)](b)
			row /= len(calls)
		}
		b.same(t, 2)
	}
}

// drawn does one call, mostly with slots and handles such as there are.
func (b both) drawn(t *testing.T, r *rand.Rand, slots int) {
	t.Helper()
	slot := r.IntN(slots+1) - 1
	switch r.IntN(6) {
	case 0, 1, 2:
		b.make(t, slot)
	case 3:
		h, _ := b.x.Of(slot)
		b.drop(t, h)
	case 4:
		b.drop(t, api.Handle{Slot: slot, Gen: r.Uint64N(6)})
	default:
		if len(b.w.made) > 0 {
			b.drop(t, b.w.made[r.IntN(len(b.w.made))])
		}
	}
}

// TestWordsDrawn: long rows of calls, over few slots and over many; the table is held against the words behind each call.
func TestWordsDrawn(t *testing.T) {
	for i, slots := range []int{1, 2, 3, 5, 20, 100} {
		r := rand.New(rand.NewPCG(13, uint64(i)))
		b := bothOf()
		for range 300 {
			b.drawn(t, r, slots)
			b.same(t, slots)
		}
	}
}

// TestP133NeverTwice: of all handles that were made, over long rows of calls, no two are the same, and just those live that were not dropped.
func TestP133NeverTwice(t *testing.T) {
	r := rand.New(rand.NewPCG(13, 13))
	x := handle.New()
	living := map[api.Handle]bool{} // Of each handle that was ever made: whether it was not dropped.
	for range 20000 {
		slot := r.IntN(40)
		if h, is := x.Of(slot); is {
			drops(t, x, h)
			living[h] = false
			continue
		}
		h, e := x.Make(slot)
		if _, was := living[h]; was || e != api.OK {
			t.Fatalf("Make of %d is %v, %v; it was made before: %v", slot, h, e, was)
		}
		living[h] = true
	}
	for h, is := range living {
		if x.Lives(h) != is {
			t.Fatalf("Lives of %v is %v, not %v", h, !is, is)
		}
	}
}

// TestP133NeverAgain: who was dropped never lives again, though its slot has another one, however many there come.
func TestP133NeverAgain(t *testing.T) {
	x := handle.New()
	var gone []api.Handle
	for number := range uint64(200) {
		h := makes(t, x, 11, number+1)
		stale(t, x, gone...)
		has(t, x, h)
		drops(t, x, h)
		gone = append(gone, h)
		stale(t, x, gone...)
	}
	makes(t, x, 12, 1)
	stale(t, x, gone...)
}
