package list_test

// The chapter's words written out again, in another way: a plain row of handles, gone through from the front for whatever is asked. Held against the package over all short rows of calls, and over long ones that are drawn; and what follows of them.

import (
	"math/rand/v2"
	"slices"
	"testing"

	"warden/api"
	"warden/list"
)

type words struct{ row []api.Handle }

func (w *words) push(h api.Handle, front bool) api.Errno {
	if slices.Contains(w.row, h) {
		return api.ErrThere
	}
	if front {
		w.row = append([]api.Handle{h}, w.row...)
	} else {
		w.row = append(w.row, h)
	}
	return api.OK
}

func (w *words) peek(front bool) (api.Handle, bool) {
	for i, h := range w.row {
		if front || i == len(w.row)-1 {
			return h, true
		}
	}
	return api.Handle{}, false
}

func (w *words) remove(h api.Handle) bool {
	n := len(w.row)
	w.row = slices.DeleteFunc(w.row, func(other api.Handle) bool { return other == h })
	return len(w.row) < n
}

func (w *words) pop(front bool) (api.Handle, bool) {
	h, is := w.peek(front)
	return h, is && w.remove(h)
}

func (w *words) next(h api.Handle) (api.Handle, bool) {
	for i, other := range w.row {
		if other == h && i+1 < len(w.row) {
			return w.row[i+1], true
		}
	}
	return api.Handle{}, false
}

// both is a list and what the words say of it.
type both struct {
	l *list.List
	w *words
}

func bothOf() both {
	return both{list.New(), &words{}}
}

func (b both) push(t *testing.T, h api.Handle, front bool) {
	t.Helper()
	e := b.l.Push(h, front)
	if f := b.w.push(h, front); e != f {
		t.Fatalf("Push of %v (front %v) is %v, not %v", h, front, e, f)
	}
}

func (b both) pop(t *testing.T, front bool) {
	t.Helper()
	h, is := b.l.Pop(front)
	if want, has := b.w.pop(front); h != want || is != has {
		t.Fatalf("Pop (front %v) is %v, %v, not %v, %v", front, h, is, want, has)
	}
}

func (b both) remove(t *testing.T, h api.Handle) {
	t.Helper()
	is := b.l.Remove(h)
	if was := b.w.remove(h); is != was {
		t.Fatalf("Remove of %v is %v, not %v", h, is, was)
	}
}

// same holds all that the list tells of itself, and of these handles, against the words.
func (b both) same(t *testing.T, handles []api.Handle) {
	t.Helper()
	if got := b.l.All(); !slices.Equal(got, b.w.row) {
		t.Fatalf("All are %v, not %v", got, b.w.row)
	}
	if got := b.l.Len(); got != len(b.w.row) {
		t.Fatalf("Len is %d, not %d", got, len(b.w.row))
	}
	for _, front := range []bool{true, false} {
		h, is := b.l.Peek(front)
		if want, has := b.w.peek(front); h != want || is != has {
			t.Fatalf("Peek (front %v) is %v, %v, not %v, %v", front, h, is, want, has)
		}
	}
	for _, h := range handles {
		if is, has := b.l.Has(h), slices.Contains(b.w.row, h); is != has {
			t.Fatalf("Has of %v is %v, not %v", h, is, has)
		}
		n, is := b.l.Next(h)
		if want, has := b.w.next(h); n != want || is != has {
			t.Fatalf("Next of %v is %v, %v, not %v, %v", h, n, is, want, has)
		}
	}
}

// rows calls with each row of that many out of n numbers.
func rows(n, long int, call func(row []int)) {
	row := make([]int, long)
	for {
		call(row)
		i := 0
		for i < long && row[i] == n-1 {
			row[i] = 0
			i++
		}
		if i == long {
			return
		}
		row[i]++
	}
}

// shortCalls are all calls that change a row of at most these three handles.
func shortCalls(t *testing.T, handles []api.Handle) []func(b both) {
	calls := []func(b both){
		func(b both) { b.pop(t, true) },
		func(b both) { b.pop(t, false) },
	}
	for _, h := range handles {
		calls = append(calls,
			func(b both) { b.push(t, h, true) },
			func(b both) { b.push(t, h, false) },
			func(b both) { b.remove(t, h) },
		)
	}
	return calls
}

// TestWordsShort: all rows of five calls out of eleven; what is left is popped at the one end, or at the other one.
func TestWordsShort(t *testing.T) {
	handles := []api.Handle{{}, {Slot: 1}, {Gen: 1}}
	calls := shortCalls(t, handles)
	rows(len(calls), 5, func(row []int) {
		for _, front := range []bool{true, false} {
			b := bothOf()
			for _, i := range row {
				calls[i](b)
			}
			b.same(t, handles)
			for len(b.w.row) > 0 {
				b.pop(t, front)
			}
			b.pop(t, front)
			b.same(t, handles)
		}
	})
}

// drawn does one call, of one sort out of all, with a handle that is in about as often as not.
func (b both) drawn(t *testing.T, r *rand.Rand, handles []api.Handle) {
	t.Helper()
	h := handles[r.IntN(len(handles))]
	switch r.IntN(6) {
	case 0, 1:
		b.push(t, h, true)
	case 2, 3:
		b.push(t, h, false)
	case 4:
		b.remove(t, h)
	default:
		b.pop(t, r.IntN(2) == 0)
	}
}

// TestWordsDrawn: long rows of calls, over few handles and over many; the list is held against the words behind each call.
func TestWordsDrawn(t *testing.T) {
	for n := 1; n <= len(kinds()); n += 1 + n/2 {
		r := rand.New(rand.NewPCG(15, uint64(n)))
		handles := kinds()[:n]
		b := bothOf()
		for range 3000 {
			b.drawn(t, r, handles)
			b.same(t, handles)
		}
	}
}

// TestP153Lists: several lists at once, each with its own row of the same handles.
func TestP153Lists(t *testing.T) {
	r := rand.New(rand.NewPCG(15, 15))
	handles := kinds()[:12]
	lists := []both{bothOf(), bothOf(), bothOf(), bothOf()}
	for range 3000 {
		lists[r.IntN(len(lists))].drawn(t, r, handles)
		for _, b := range lists {
			b.same(t, handles)
		}
	}
}

// TestP153Long: rows of many handles, of which each third is removed, are a plain row still.
func TestP153Long(t *testing.T) {
	const n = 200000
	l := list.New()
	for i := range n {
		pushes(t, l, api.Handle{Slot: i, Gen: 1}, i%2 > 0)
	}
	var want []api.Handle
	for i := n - 1; i > 0; i -= 2 {
		want = append(want, api.Handle{Slot: i, Gen: 1})
	}
	for i := 0; i < n; i += 2 {
		want = append(want, api.Handle{Slot: i, Gen: 1})
	}
	for i := 0; i < n; i += 3 {
		if h := (api.Handle{Slot: i, Gen: 1}); !l.Remove(h) {
			t.Fatalf("Remove of %v is false", h)
		}
	}
	want = slices.DeleteFunc(want, func(h api.Handle) bool { return h.Slot%3 == 0 })
	has(t, l, want...)
	for len(want) > 1 {
		first, one := l.Pop(true)
		last, other := l.Pop(false)
		if first != want[0] || last != want[len(want)-1] || !one || !other {
			t.Fatalf("Pop at both ends is %v and %v, not %v and %v", first, last, want[0], want[len(want)-1])
		}
		want = want[1 : len(want)-1]
	}
	has(t, l, want...)
}
