package lock_test

// The chapter's words written out again, in another way: all that were taken, and how many of them were given back; the last one is held while these are fewer. Held against the package over all short rows of calls, and over long ones that are drawn; and what follows of them.

import (
	"math/rand/v2"
	"testing"

	"warden/api"
	"warden/lock"
)

type words struct {
	taken []value
	given uint64
}

func (w *words) held() (value, bool) {
	if w.given == uint64(len(w.taken)) {
		return value{}, false
	}
	return w.taken[w.given], true
}

func (w *words) is(v value) bool {
	u, is := w.held()
	return is && u == v
}

func (w *words) take(v value) api.Errno {
	if _, is := w.held(); is {
		return api.ErrState
	}
	w.taken = append(w.taken, v)
	return api.OK
}

func (w *words) give(v value) api.Errno {
	if !w.is(v) {
		return api.ErrState
	}
	w.given++
	return api.OK
}

// both is a lock and what the words say of it.
type both struct {
	l *lock.Lock
	w *words
}

func bothOf() both {
	return both{lock.New(), &words{}}
}

func (b both) take(t *testing.T, v value) {
	t.Helper()
	e := b.l.Take(v.m, v.slot)
	if f := b.w.take(v); e != f {
		t.Fatalf("Take of %v is %v, not %v", v, e, f)
	}
}

func (b both) give(t *testing.T, v value) {
	t.Helper()
	e := b.l.Give(v.m, v.slot)
	if f := b.w.give(v); e != f {
		t.Fatalf("Give of %v is %v, not %v", v, e, f)
	}
}

// same holds all that the lock tells of itself, and of these values, against the words.
func (b both) same(t *testing.T, values []value) {
	t.Helper()
	m, slot, is := b.l.Held()
	if want, has := b.w.held(); (value{m, slot}) != want || is != has {
		t.Fatalf("Held is %d, %d, %v, not %v, %v", m, slot, is, want, has)
	}
	if got := b.l.Epoch(); got != b.w.given {
		t.Fatalf("Epoch is %d, not %d", got, b.w.given)
	}
	for _, v := range values {
		if got, want := b.l.Is(v.m, v.slot), b.w.is(v); got != want {
			t.Fatalf("Is of %v is %v, not %v", v, got, want)
		}
	}
}

// TestWordsShort: all rows of six calls out of eight, with four values.
func TestWordsShort(t *testing.T) {
	values := []value{{0, 0}, {0, 1}, {1, 0}, {1, 1}}
	var calls []func(b both)
	for _, v := range values {
		calls = append(calls,
			func(b both) { b.take(t, v) },
			func(b both) { b.give(t, v) },
		)
	}
	const long = 6
	all := 1
	for range long {
		all *= len(calls)
	}
	for row := range all {
		b := bothOf()
		for range long {
			calls[row%len(calls)](b)
			b.same(t, values)
			row /= len(calls)
		}
	}
}

// drawn does one call; the more values there are, the more often with the one that is held.
func (b both) drawn(t *testing.T, r *rand.Rand, values []value) {
	t.Helper()
	v := values[r.IntN(len(values))]
	switch u, is := b.w.held(); {
	case r.IntN(2) == 0:
		b.take(t, v)
	case is && r.IntN(2) == 0:
		b.give(t, u)
	default:
		b.give(t, v)
	}
}

// TestWordsDrawn: long rows of calls, over few values and over many; the lock is held against the words behind each call.
func TestWordsDrawn(t *testing.T) {
	all := values()
	for i, n := range []int{1, 2, 5, 20, len(all)} {
		r := rand.New(rand.NewPCG(18, uint64(i)))
		b := bothOf()
		for range 2000 {
			b.drawn(t, r, all[:n])
			b.same(t, all[:n])
		}
	}
}

// TestP182Locks: several locks at once, each of whatever value.
func TestP182Locks(t *testing.T) {
	r := rand.New(rand.NewPCG(18, 18))
	few := []value{{}, {0, 1}, {1, 0}, {-1, 1}}
	locks := []both{bothOf(), bothOf(), bothOf()}
	for range 5000 {
		locks[r.IntN(len(locks))].drawn(t, r, few)
		for _, b := range locks {
			b.same(t, few)
		}
	}
}

// TestP182OneAtMost: behind each of many drawn calls one value's lock is held at most.
func TestP182OneAtMost(t *testing.T) {
	r := rand.New(rand.NewPCG(18, 2))
	all := values()
	b := bothOf()
	for range 5000 {
		b.drawn(t, r, all)
		n := 0
		for _, v := range all {
			if b.l.Is(v.m, v.slot) {
				n++
			}
		}
		if _, _, is := b.l.Held(); n > 1 || (n == 1) != is {
			t.Fatalf("%d are held; one is: %v", n, is)
		}
	}
}

// TestP182GivenBack: what a Give gives back is what the Take ahead of it took: Takes and Gives that are not refused come in turn, of the same value two by two.
func TestP182GivenBack(t *testing.T) {
	r := rand.New(rand.NewPCG(18, 82))
	few := values()[:12]
	l := lock.New()
	var held []value
	given := 0
	for range 20000 {
		v := few[r.IntN(len(few))]
		if r.IntN(4) == 0 && l.Take(v.m, v.slot) == api.OK {
			held = append(held, v)
		}
		if v = few[r.IntN(len(few))]; l.Give(v.m, v.slot) == api.OK {
			if len(held) != 1 || held[0] != v {
				t.Fatalf("%v was given back, while %v is held", v, held)
			}
			held = nil
			given++
		}
		if len(held) > 1 || l.Epoch() != uint64(given) {
			t.Fatalf("%v are held; Epoch is %d, not %d", held, l.Epoch(), given)
		}
	}
	if given < 500 {
		t.Fatal("so few were given back:", given)
	}
}
