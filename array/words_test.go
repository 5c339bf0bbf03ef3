package array_test

// The chapter's words written out again, in another way: the row of all Writes that were taken, and a byte is what the last one of them that had it made of it. Held against the package over all short rows of calls, and over long ones that are drawn.

import (
	"math/rand/v2"
	"strings"
	"testing"

	"warden/api"
	"warden/array"
)

// written is a text that was taken.
type written struct {
	slot, at int
	text     string
}

type words struct {
	size, n int
	row     []written
}

func (w *words) write(slot, at int, text string) api.Errno {
	if slot < 0 || slot >= w.n {
		return api.ErrNone
	}
	if !inside(w.size, at, len(text)) {
		return api.ErrOver
	}
	w.row = append(w.row, written{slot, at, text})
	return api.OK
}

// byteAt seeks the last text that has this byte.
func (w *words) byteAt(slot, at int) byte {
	for i := len(w.row) - 1; i >= 0; i-- {
		if x := w.row[i]; x.slot == slot && x.at <= at && at < x.at+len(x.text) {
			return x.text[at-x.at]
		}
	}
	return 0
}

func (w *words) state() state {
	s := state{size: w.size}
	for slot := range w.n {
		var b strings.Builder
		for at := range w.size {
			b.WriteByte(w.byteAt(slot, at))
		}
		s.values = append(s.values, b.String())
	}
	return s
}

// both is an array and what the words say of it.
type both struct {
	a *array.Array
	w *words
}

func bothOf(t *testing.T, size, n int) both {
	t.Helper()
	return both{made(t, size, n), &words{size: size, n: n}}
}

func (b both) write(t *testing.T, slot, at int, text string) {
	t.Helper()
	writesNot(t, b.a, slot, at, text, b.w.write(slot, at, text))
}

func (b both) same(t *testing.T) {
	t.Helper()
	has(t, b.a, b.w.state())
}

// TestWordsShort: all rows of four Writes out of many, in an array of two values of two bytes.
func TestWordsShort(t *testing.T) {
	var calls []written
	for slot := range 3 {
		for _, text := range []string{"a", "bc", ""} {
			calls = append(calls, written{slot, 0, text}, written{slot, 1, text})
		}
	}
	const long = 4
	all := 1
	for range long {
		all *= len(calls)
	}
	for row := range all {
		b := bothOf(t, 2, 2)
		for range long {
			c := calls[row%len(calls)]
			b.write(t, c.slot, c.at, c.text)
			row /= len(calls)
		}
		b.same(t)
	}
}

// drawn does one Write, mostly of what may be.
func (b both) drawn(t *testing.T, r *rand.Rand) {
	t.Helper()
	slot, at := r.IntN(b.w.n+1)-r.IntN(2), r.IntN(b.w.size+3)-1
	text := make([]byte, r.IntN(b.w.size+3-max(at, 0)))
	for i := range text {
		text[i] = byte(r.IntN(256))
	}
	b.write(t, slot, at, string(text))
}

// TestP193Drawn: long rows of Writes, into arrays of every kind; all bytes are held against the words behind each.
func TestP193Drawn(t *testing.T) {
	for i, c := range []struct{ size, n, long int }{{1, 1, 100}, {3, 2, 500}, {8, 5, 500}, {24, 9, 300}, {api.MaxSize, 3, 200}, {2, api.MaxSlots, 200}} {
		r := rand.New(rand.NewPCG(19, uint64(i)))
		b := bothOf(t, c.size, c.n)
		for range c.long {
			b.drawn(t, r)
			b.same(t)
		}
	}
}

// TestP193Several: several arrays at once; what is written into one is in no other one.
func TestP193Several(t *testing.T) {
	r := rand.New(rand.NewPCG(19, 193))
	arrays := []both{bothOf(t, 4, 3), bothOf(t, 4, 3), bothOf(t, 5, 2)}
	for range 500 {
		arrays[r.IntN(len(arrays))].drawn(t, r)
		for _, b := range arrays {
			b.same(t)
		}
	}
}

// TestP193Found: what is written at the slot that a key leads to is what is got there, for every key about the slots.
func TestP193Found(t *testing.T) {
	for _, n := range counts() {
		b := bothOf(t, 4, n)
		for x := range uint64(n + 3) {
			slot, e := b.a.Find(keyOf(x))
			if (e == api.OK) != (x < uint64(n)) {
				t.Fatalf("Find of %d, of %d slots, is %v", x, n, e)
			}
			if e == api.OK {
				b.write(t, slot, 0, keyOf(x+1))
				gets(t, b.a, int(x), keyOf(x+1))
			}
		}
		b.same(t)
	}
}
