package lock_test

import (
	"math"
	"testing"

	"warden/api"
	"warden/lock"
)

// value is a map and a slot.
type value struct{ m, slot int }

// values are such whose numbers are of every kind: 0, those below it, very great ones, and such as differ by a great power of two alone.
func values() []value {
	few := []int{0, 1, 2, -1, -2, 255, 256, math.MaxInt32, math.MinInt32, 1 << 31, 1 << 32, 1<<32 + 1, -1 << 32, 1 << 62, math.MaxInt - 1, math.MaxInt, math.MinInt, math.MinInt + 1}
	var out []value
	for _, m := range few {
		for _, slot := range few {
			out = append(out, value{m, slot})
		}
	}
	return out
}

// others are all of the values but one, and such as are near to it: of another map, of another slot, of both, of both the other way round.
func others(v value) []value {
	near := []value{{v.m + 1, v.slot}, {v.m, v.slot + 1}, {v.m - 1, v.slot}, {v.m, v.slot - 1}, {v.m + 1, v.slot - 1}, {v.m - 1, v.slot + 1}, {v.slot, v.m}, {-v.m, v.slot}, {v.m, -v.slot}, {-v.m, -v.slot}, {v.m ^ 1<<32, v.slot}, {v.m, v.slot ^ 1<<32}, {v.m ^ math.MinInt, v.slot}, {v.m, v.slot ^ math.MinInt}}
	var out []value
	for _, u := range append(near, values()...) {
		if u != v {
			out = append(out, u)
		}
	}
	return out
}

func takes(t *testing.T, l *lock.Lock, v value) {
	t.Helper()
	epoch := l.Epoch()
	if e := l.Take(v.m, v.slot); e != api.OK {
		t.Fatalf("Take of %v is %v", v, e)
	}
	holds(t, l, v, epoch)
}

func gives(t *testing.T, l *lock.Lock, v value) {
	t.Helper()
	epoch := l.Epoch()
	if e := l.Give(v.m, v.slot); e != api.OK {
		t.Fatalf("Give of %v is %v", v, e)
	}
	free(t, l, epoch+1, v)
}

// holds holds all that the lock tells of itself: that one is held, and it is the epoch.
func holds(t *testing.T, l *lock.Lock, v value, epoch uint64) {
	t.Helper()
	if !l.Is(v.m, v.slot) {
		t.Fatalf("Is of %v, that is held, is false", v)
	}
	if m, slot, is := l.Held(); (value{m, slot}) != v || !is {
		t.Fatalf("Held is %d, %d, %v, not %v", m, slot, is, v)
	}
	if got := l.Epoch(); got != epoch {
		t.Fatalf("Epoch is %d, not %d, while %v is held", got, epoch, v)
	}
	notHeld(t, l, value{v.m + 1, v.slot}, value{v.m, v.slot + 1}, value{v.m + 1, v.slot + 1})
}

// free holds all that the lock tells of itself: that none is held, and it is the epoch.
func free(t *testing.T, l *lock.Lock, epoch uint64, values ...value) {
	t.Helper()
	if m, slot, is := l.Held(); m != 0 || slot != 0 || is {
		t.Fatalf("Held is %d, %d, %v, though none is", m, slot, is)
	}
	if got := l.Epoch(); got != epoch {
		t.Fatalf("Epoch is %d, not %d, while none is held", got, epoch)
	}
	notHeld(t, l, value{})
	notHeld(t, l, values...)
}

func notHeld(t *testing.T, l *lock.Lock, values ...value) {
	t.Helper()
	for _, v := range values {
		if l.Is(v.m, v.slot) {
			t.Fatalf("Is of %v, that is not held, is true", v)
		}
	}
}

// notTaken holds that none of them can be taken.
func notTaken(t *testing.T, l *lock.Lock, values ...value) {
	t.Helper()
	for _, v := range values {
		if e := l.Take(v.m, v.slot); e != api.ErrState {
			t.Fatalf("Take of %v while one is held is %v", v, e)
		}
	}
}

// notGiven holds that none of them can be given back.
func notGiven(t *testing.T, l *lock.Lock, values ...value) {
	t.Helper()
	for _, v := range values {
		if e := l.Give(v.m, v.slot); e != api.ErrState {
			t.Fatalf("Give of %v, that is not held, is %v", v, e)
		}
	}
}

func TestExample(t *testing.T) {
	l := lock.New()
	takes(t, l, value{1, 2})
	notTaken(t, l, value{1, 3})
	holds(t, l, value{1, 2}, 0)
	gives(t, l, value{1, 2})
	if l.Epoch() != 1 {
		t.Fatal("Epoch is", l.Epoch())
	}
}

// TestP181New: none is held, whatever is asked, and none can be given back.
func TestP181New(t *testing.T) {
	l := lock.New()
	if l == nil {
		t.Fatal("New is nil")
	}
	free(t, l, 0, values()...)
	notGiven(t, l, values()...)
	free(t, l, 0, values()...)
}

// TestP181Values: maps and slots of any number are taken, and given back, as others are.
func TestP181Values(t *testing.T) {
	l := lock.New()
	for i, v := range values() {
		takes(t, l, v)
		holds(t, l, v, uint64(i))
		gives(t, l, v)
		free(t, l, uint64(i)+1, v)
	}
}

// TestP181TakeHeld: while one is held none is taken, neither that one nor another one, and all is as it was.
func TestP181TakeHeld(t *testing.T) {
	for _, v := range []value{{1, 2}, {0, 0}, {0, 1}, {1, 0}, {2, 2}, {-1, -3}, {math.MaxInt, math.MinInt}} {
		l := lock.New()
		takes(t, l, v)
		for _, u := range append(others(v), v) {
			notTaken(t, l, u)
			holds(t, l, v, 0)
		}
		gives(t, l, v)
	}
}

// TestP181GiveOther: of another map, of another slot, of both: what is not held is not given back, and all is as it was.
func TestP181GiveOther(t *testing.T) {
	for _, v := range []value{{1, 2}, {0, 0}, {0, 1}, {1, 0}, {2, 2}, {-1, -3}, {math.MaxInt, math.MinInt}} {
		l := lock.New()
		takes(t, l, v)
		for _, u := range others(v) {
			notGiven(t, l, u)
			holds(t, l, v, 0)
		}
		gives(t, l, v)
	}
}

// TestP181GiveTwice: who was given back is held no more, so it cannot be given back again, nor can another one; it can be once it was taken again.
func TestP181GiveTwice(t *testing.T) {
	for _, v := range []value{{1, 2}, {0, 0}, {-1, 0}, {math.MinInt, math.MaxInt}} {
		l := lock.New()
		for epoch := range uint64(4) {
			notGiven(t, l, v)
			free(t, l, epoch, v)
			takes(t, l, v)
			gives(t, l, v)
			notGiven(t, l, v)
			notGiven(t, l, others(v)...)
			free(t, l, epoch+1, v)
		}
	}
}

// TestP181TakeAgain: behind a Give the same one may be taken, or any other one.
func TestP181TakeAgain(t *testing.T) {
	few := []value{{1, 2}, {1, 3}, {2, 2}, {2, 1}, {0, 0}, {-1, -2}, {math.MaxInt, 0}}
	for _, v := range few {
		for _, u := range few {
			l := lock.New()
			takes(t, l, v)
			gives(t, l, v)
			takes(t, l, u)
			if u != v {
				notHeld(t, l, v)
				notGiven(t, l, v)
			}
			holds(t, l, u, 1)
			gives(t, l, u)
			free(t, l, 2, u, v)
		}
	}
}

// TestP181Is: of the one that is held alone, however near another one is.
func TestP181Is(t *testing.T) {
	for _, v := range values() {
		l := lock.New()
		notHeld(t, l, v)
		takes(t, l, v)
		notHeld(t, l, others(v)...)
		gives(t, l, v)
		notHeld(t, l, v)
		notHeld(t, l, others(v)...)
	}
}

// TestP181Asked: who asks changes nothing, however often.
func TestP181Asked(t *testing.T) {
	l := lock.New()
	for range 3 {
		free(t, l, 0, value{1, 2}, value{2, 1})
	}
	takes(t, l, value{1, 2})
	for range 3 {
		holds(t, l, value{1, 2}, 0)
	}
	gives(t, l, value{1, 2})
	for range 3 {
		free(t, l, 1, value{1, 2}, value{2, 1})
	}
}

// TestP181Epoch: one more for each that was given back, of whatever value, and for nothing else.
func TestP181Epoch(t *testing.T) {
	l := lock.New()
	for epoch := range uint64(70000) {
		v := value{int(epoch % 3), int(epoch % 5)}
		ok := l.Take(v.m, v.slot) == api.OK && l.Epoch() == epoch
		ok = ok && l.Take(v.m, v.slot) == api.ErrState && l.Give(v.m+1, v.slot) == api.ErrState && l.Epoch() == epoch
		ok = ok && l.Give(v.m, v.slot) == api.OK && l.Epoch() == epoch+1
		if !ok || l.Give(v.m, v.slot) != api.ErrState || l.Epoch() != epoch+1 {
			t.Fatalf("Epoch is %d, behind %d that were given back", l.Epoch(), epoch)
		}
	}
	free(t, l, 70000)
}

// TestP181Locks: what is done with a lock makes no difference to another one, though it is of the same value.
func TestP181Locks(t *testing.T) {
	a, b := lock.New(), lock.New()
	v, u := value{1, 2}, value{3, 4}
	takes(t, a, v)
	free(t, b, 0, v)
	notGiven(t, b, v)
	takes(t, b, v)
	gives(t, a, v)
	holds(t, b, v, 0)
	takes(t, a, u)
	gives(t, a, u)
	holds(t, b, v, 0)
	notTaken(t, b, u)
	free(t, a, 2, u, v)
	gives(t, b, v)
	takes(t, b, u)
	free(t, a, 2, u, v)
	free(t, lock.New(), 0, u, v)
}

// TestNil: each call of nil, and of a lock that New did not make, ahead of all else; it does nothing.
func TestNil(t *testing.T) {
	for _, l := range []*lock.Lock{nil, {}, new(lock.Lock)} {
		for _, v := range append(values(), value{1, 2}) {
			for _, call := range []func(m, slot int) api.Errno{l.Take, l.Give, l.Take, l.Give} {
				if e := call(v.m, v.slot); e != api.ErrNil {
					t.Fatalf("a call of nil with %v is %v", v, e)
				}
				free(t, l, 0, v)
			}
		}
	}
}
