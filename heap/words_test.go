package heap_test

// The chapter's words written out again, in another way: all objects that were ever made are kept in a row, each with how often it was held and dropped, and what is asked is read out of it. Held against the package over all short rows of calls, and over long ones that are drawn; and what follows of them.

import (
	"math/rand/v2"
	"slices"
	"strings"
	"testing"

	"warden/api"
	"warden/heap"
)

// thing is an object that was made once.
type thing struct {
	h           api.Handle
	kind        int
	bytes       string
	held, drops int
	freed       bool
}

func (o *thing) count() int {
	return o.held - o.drops
}

type words struct {
	room int
	made []*thing
}

// find is the object of that handle, if it lives.
func (w *words) find(h api.Handle) (*thing, api.Errno) {
	for _, o := range w.made {
		if o.h == h && !o.freed {
			return o, api.OK
		}
	}
	return nil, api.ErrStale
}

// classOf is the class of a size that has one.
func classOf(size int) int {
	class := 8
	for class < size {
		class *= 2
	}
	return class
}

func (w *words) used() int {
	sum := 0
	for _, o := range w.made {
		if !o.freed {
			sum += classOf(len(o.bytes))
		}
	}
	return sum
}

// next is the handle that the next object has: the least slot in which none lives, and one more than had it.
func (w *words) next() api.Handle {
	h := api.Handle{Gen: 1}
	for slices.ContainsFunc(w.made, func(o *thing) bool { return o.h.Slot == h.Slot && !o.freed }) {
		h.Slot++
	}
	for _, o := range w.made {
		if o.h.Slot == h.Slot {
			h.Gen++
		}
	}
	return h
}

func (w *words) make(kind, size int) (api.Handle, api.Errno) {
	if size < 1 || size > 128 {
		return api.Handle{}, api.ErrArg
	}
	if w.used()+classOf(size) > w.room {
		return api.Handle{}, api.ErrFull
	}
	h := w.next()
	w.made = append(w.made, &thing{h: h, kind: kind, bytes: strings.Repeat("\x00", size), held: 1})
	return h, api.OK
}

func (w *words) hold(h api.Handle) (int, api.Errno) {
	o, e := w.find(h)
	if e != api.OK {
		return 0, e
	}
	o.held++
	return o.count(), api.OK
}

func (w *words) drop(h api.Handle) (int, api.Errno) {
	o, e := w.find(h)
	if e != api.OK {
		return 0, e
	}
	if o.count() == 0 {
		return 0, api.ErrState
	}
	o.drops++
	return o.count(), api.OK
}

func (w *words) free(h api.Handle) api.Errno {
	o, e := w.find(h)
	if e != api.OK {
		return e
	}
	if o.count() > 0 {
		return api.ErrState
	}
	o.freed = true
	return api.OK
}

func (w *words) read(h api.Handle, at, n int) (string, api.Errno) {
	o, e := w.find(h)
	if e != api.OK {
		return "", e
	}
	if at < 0 || n < 0 || at+n > len(o.bytes) {
		return "", api.ErrRange
	}
	return o.bytes[at : at+n], api.OK
}

func (w *words) write(h api.Handle, at int, text string) api.Errno {
	o, e := w.find(h)
	if e != api.OK {
		return e
	}
	if at < 0 || at+len(text) > len(o.bytes) {
		return api.ErrRange
	}
	o.bytes = o.bytes[:at] + text + o.bytes[at+len(text):]
	return api.OK
}

func (w *words) state() state {
	s := state{room: w.room, used: w.used()}
	for _, o := range w.made {
		if !o.freed {
			s.objects = append(s.objects, object{o.h, o.kind, o.count(), o.bytes})
		}
	}
	slices.SortFunc(s.objects, func(a, b object) int { return a.h.Slot - b.h.Slot })
	return s
}

// both is a heap and what the words say of it.
type both struct {
	x *heap.Heap
	w *words
}

func bothOf(t *testing.T, room int) both {
	return both{made(t, room), &words{room: room}}
}

func (b both) make(t *testing.T, kind, size int) {
	t.Helper()
	h, e := b.x.Make(kind, size)
	if want, f := b.w.make(kind, size); h != want || e != f {
		t.Fatalf("Make of %d bytes is %v, %v, not %v, %v", size, h, e, want, f)
	}
}

func (b both) hold(t *testing.T, h api.Handle) {
	t.Helper()
	n, e := b.x.Hold(h)
	if want, f := b.w.hold(h); n != want || e != f {
		t.Fatalf("Hold of %v is %d, %v, not %d, %v", h, n, e, want, f)
	}
}

func (b both) drop(t *testing.T, h api.Handle) {
	t.Helper()
	n, e := b.x.Drop(h)
	if want, f := b.w.drop(h); n != want || e != f {
		t.Fatalf("Drop of %v is %d, %v, not %d, %v", h, n, e, want, f)
	}
}

func (b both) free(t *testing.T, h api.Handle) {
	t.Helper()
	e := b.x.Free(h)
	if f := b.w.free(h); e != f {
		t.Fatalf("Free of %v is %v, not %v", h, e, f)
	}
}

func (b both) read(t *testing.T, h api.Handle, at, n int) {
	t.Helper()
	text, e := b.x.Read(h, at, n)
	if want, f := b.w.read(h, at, n); text != want || e != f {
		t.Fatalf("Read of %v, %d from %d on, is %q, %v, not %q, %v", h, n, at, text, e, want, f)
	}
}

func (b both) write(t *testing.T, h api.Handle, at int, text string) {
	t.Helper()
	e := b.x.Write(h, at, text)
	if f := b.w.write(h, at, text); e != f {
		t.Fatalf("Write of %q into %v at %d is %v, not %v", text, h, at, e, f)
	}
}

// same holds all that the heap tells against the words, also of those that were freed.
func (b both) same(t *testing.T) {
	t.Helper()
	if got, want := stateOf(t, b.x), b.w.state(); !got.equal(want) {
		t.Fatalf("the heap is %v, not %v", got, want)
	}
	for _, o := range b.w.made {
		if o.freed {
			unknown(t, b.x, o.h)
		}
	}
}

// shortCalls are calls with the first handles that a heap makes.
func shortCalls(t *testing.T) []func(b both) {
	first, second, other := api.Handle{Gen: 1}, api.Handle{Gen: 2}, api.Handle{Slot: 1, Gen: 1}
	return []func(b both){
		func(b both) { b.make(t, 1, 8) },
		func(b both) { b.make(t, -2, 9) },
		func(b both) { b.hold(t, first) },
		func(b both) { b.drop(t, first) },
		func(b both) { b.free(t, first) },
		func(b both) { b.write(t, first, 7, "x") },
		func(b both) { b.drop(t, second) },
		func(b both) { b.write(t, second, 6, "yz") },
		func(b both) { b.drop(t, other) },
		func(b both) { b.free(t, other) },
	}
}

// rows calls with each row of that many out of n numbers.
func rows(n, long int, call func(row []int)) {
	row := make([]int, long)
	for {
		call(row)
		i := 0
		for i < long && row[i] == n-1 {
			row[i] = 0
			i++
		}
		if i == long {
			return
		}
		row[i]++
	}
}

// TestWordsShort: all rows of five calls out of ten, behind one that makes an object, in rooms for one and for two.
func TestWordsShort(t *testing.T) {
	calls := shortCalls(t)
	for _, room := range []int{16, 24} {
		rows(len(calls), 5, func(row []int) {
			b := bothOf(t, room)
			calls[0](b)
			for _, i := range row {
				calls[i](b)
			}
			b.same(t)
		})
	}
}

// drawnHandle is mostly one that was made once, and often one that lives.
func (b both) drawnHandle(r *rand.Rand) api.Handle {
	live := b.x.Live()
	switch i := r.IntN(10); {
	case i < 6 && len(live) > 0:
		return live[r.IntN(len(live))]
	case i < 9 && len(b.w.made) > 0:
		return b.w.made[r.IntN(len(b.w.made))].h
	}
	return api.Handle{Slot: r.IntN(12) - 2, Gen: r.Uint64N(5)}
}

// drawn does one call, of one sort out of all, with numbers that are mostly such as may be.
func (b both) drawn(t *testing.T, r *rand.Rand) {
	t.Helper()
	h := b.drawnHandle(r)
	switch r.IntN(9) {
	case 0:
		b.make(t, r.IntN(9)-4, r.IntN(132)-1)
	case 1:
		b.make(t, r.IntN(9)-4, 1+r.IntN(9))
	case 2:
		b.hold(t, h)
	case 3, 4:
		b.drop(t, h)
	case 5, 6:
		b.free(t, h)
	case 7:
		b.read(t, h, r.IntN(20)-1, r.IntN(20)-1)
	default:
		text := make([]byte, r.IntN(20))
		for i := range text {
			text[i] = byte(r.IntN(256))
		}
		b.write(t, h, r.IntN(30)-1, string(text))
	}
}

// TestWordsDrawn: long rows of calls, in rooms of unlike sizes; the heap is held against the words behind each call.
func TestWordsDrawn(t *testing.T) {
	for i, room := range []int{0, 8, 16, 40, 128, 300, 1000} {
		r := rand.New(rand.NewPCG(14, uint64(i)))
		b := bothOf(t, room)
		for range 2000 {
			b.drawn(t, r)
			b.same(t)
		}
	}
}

// TestP143Count: over long rows of holdings and droppings, drawn among many objects, each count is what was done to that object alone.
func TestP143Count(t *testing.T) {
	r := rand.New(rand.NewPCG(14, 14))
	var counts [30]int
	x := made(t, 8*len(counts))
	for slot := range counts {
		makes(t, x, slot, 8, slot, 1)
		counts[slot] = 1
	}
	for range 20000 {
		slot := r.IntN(len(counts))
		h := api.Handle{Slot: slot, Gen: 1}
		if r.IntN(2) == 0 {
			counts[slot]++
			holds(t, x, h, counts[slot])
		} else if counts[slot] > 0 {
			counts[slot]--
			drops(t, x, h, counts[slot])
		} else if n, e := x.Drop(h); n != 0 || e != api.ErrState {
			t.Fatalf("Drop of %v, that nobody holds, is %d, %v", h, n, e)
		}
	}
	for slot, want := range counts {
		tells(t, x, object{api.Handle{Slot: slot, Gen: 1}, slot, want, strings.Repeat("\x00", 8)})
	}
}

// TestP143FreedNew: an object's count begins anew with one, whatever that of the one ahead of it in its slot was.
func TestP143FreedNew(t *testing.T) {
	x := made(t, 8)
	for number := uint64(1); number < 50; number++ {
		h := makes(t, x, int(number), 8, 0, number)
		for count := range int(number) {
			holds(t, x, h, count+2)
		}
		frees(t, x, h)
	}
	has(t, x, 8, 0)
}

// TestP143Often: a slot's objects are as many as one likes; of none of them its handle tells anything once another one has the slot.
func TestP143Often(t *testing.T) {
	x := made(t, 128)
	for number := range uint64(20000) {
		h, e := x.Make(1, 1+int(number%api.MaxSize))
		if h != (api.Handle{Gen: number + 1}) || e != api.OK {
			t.Fatalf("Make is %v, %v", h, e)
		}
		unknown(t, x, api.Handle{Gen: number})
		drops(t, x, h, 0)
		if e := x.Free(h); e != api.OK {
			t.Fatalf("Free of %v is %v", h, e)
		}
	}
	has(t, x, 128, 0)
	makes(t, x, 1, 128, 0, 20001)
}
