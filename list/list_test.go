package list_test

import (
	"math"
	"slices"
	"testing"

	"warden/api"
	"warden/list"
)

// some are n handles that differ by their slots, or by their numbers.
func some(n int) []api.Handle {
	var out []api.Handle
	for i := range n {
		out = append(out, api.Handle{Slot: i / 2, Gen: uint64(1 + i%2)})
	}
	return out
}

// kinds are handles of every kind: the zero one, slots below 0 and very great ones, and such as differ by one of both alone.
func kinds() []api.Handle {
	var out []api.Handle
	for _, slot := range []int{0, 1, 2, -1, 63, 64, -64, 1 << 31, 1 << 32, 1<<32 + 1, -1 << 32, math.MaxInt - 1, math.MaxInt, math.MinInt, math.MinInt + 1} {
		for _, number := range []uint64{1, 0, 2, 1 << 32, 1<<32 + 1, 1 << 63, math.MaxUint64} {
			out = append(out, api.Handle{Slot: slot, Gen: number})
		}
	}
	return out
}

// listOf is a list with this row.
func listOf(t *testing.T, row ...api.Handle) *list.List {
	t.Helper()
	l := list.New()
	for _, h := range row {
		pushes(t, l, h, false)
	}
	has(t, l, row...)
	return l
}

func pushes(t *testing.T, l *list.List, h api.Handle, front bool) {
	t.Helper()
	if e := l.Push(h, front); e != api.OK {
		t.Fatalf("Push of %v (front %v) is %v", h, front, e)
	}
}

func pops(t *testing.T, l *list.List, front bool, want api.Handle) {
	t.Helper()
	if got, is := l.Pop(front); got != want || !is {
		t.Fatalf("Pop (front %v) is %v, %v, not %v", front, got, is, want)
	}
	out(t, l, want)
}

func peeks(t *testing.T, l *list.List, front bool, want api.Handle) {
	t.Helper()
	if got, is := l.Peek(front); got != want || !is {
		t.Fatalf("Peek (front %v) is %v, %v, not %v", front, got, is, want)
	}
}

func removes(t *testing.T, l *list.List, h api.Handle) {
	t.Helper()
	if !l.Remove(h) {
		t.Fatalf("Remove of %v is false", h)
	}
	out(t, l, h)
}

// has holds all that the list tells of itself: its row is this one.
func has(t *testing.T, l *list.List, row ...api.Handle) {
	t.Helper()
	if got := l.All(); !slices.Equal(got, row) {
		t.Fatalf("All are %v, not %v", got, row)
	}
	if got := l.Len(); got != len(row) {
		t.Fatalf("Len is %d, not %d", got, len(row))
	}
	for i, h := range row {
		if !l.Has(h) {
			t.Fatalf("Has of %v is false", h)
		}
		if i+1 < len(row) {
			next(t, l, h, row[i+1])
		} else {
			last(t, l, h)
		}
	}
	if len(row) == 0 {
		bare(t, l)
		return
	}
	peeks(t, l, true, row[0])
	peeks(t, l, false, row[len(row)-1])
}

// bare holds that nothing is at either end.
func bare(t *testing.T, l *list.List) {
	t.Helper()
	for _, front := range []bool{true, false} {
		if h, is := l.Peek(front); h != (api.Handle{}) || is {
			t.Fatalf("Peek (front %v) of none is %v, %v", front, h, is)
		}
		if h, is := l.Pop(front); h != (api.Handle{}) || is {
			t.Fatalf("Pop (front %v) of none is %v, %v", front, h, is)
		}
	}
	if n := l.Len(); n != 0 {
		t.Fatal("Len is", n)
	}
}

func next(t *testing.T, l *list.List, h, want api.Handle) {
	t.Helper()
	if got, is := l.Next(h); got != want || !is {
		t.Fatalf("Next of %v is %v, %v, not %v", h, got, is, want)
	}
}

// last holds that nothing is behind the handle.
func last(t *testing.T, l *list.List, h api.Handle) {
	t.Helper()
	if got, is := l.Next(h); got != (api.Handle{}) || is {
		t.Fatalf("Next of %v is %v, %v, though it has none", h, got, is)
	}
}

// out holds that none of the handles is in, and that who would remove one changes nothing.
func out(t *testing.T, l *list.List, handles ...api.Handle) {
	t.Helper()
	before := l.All()
	for _, h := range handles {
		if l.Has(h) {
			t.Fatalf("Has of %v is true", h)
		}
		last(t, l, h)
		if l.Remove(h) {
			t.Fatalf("Remove of %v, that is not in, is true", h)
		}
	}
	if got := l.All(); !slices.Equal(got, before) {
		t.Fatalf("the row was changed from %v to %v", before, got)
	}
}

// refuses holds that no handle is pushed, at either end, and that the calls change nothing.
func refuses(t *testing.T, l *list.List, want api.Errno, handles ...api.Handle) {
	t.Helper()
	before := l.All()
	for _, h := range handles {
		for _, front := range []bool{true, false} {
			if e := l.Push(h, front); e != want {
				t.Fatalf("Push of %v (front %v) is %v, not %v", h, front, e, want)
			}
			has(t, l, before...)
		}
	}
}

// drains holds that the list has this row, seen from either end: all are popped, and there is none left.
func drains(t *testing.T, l *list.List, front bool, row ...api.Handle) {
	t.Helper()
	has(t, l, row...)
	for len(row) > 0 {
		if front {
			pops(t, l, true, row[0])
			row = row[1:]
		} else {
			pops(t, l, false, row[len(row)-1])
			row = row[:len(row)-1]
		}
		has(t, l, row...)
	}
}

// bothWays holds that what is done to a list makes it a list of this row, be it popped from the front or from the back.
func bothWays(t *testing.T, done func() *list.List, row ...api.Handle) {
	t.Helper()
	for _, front := range []bool{true, false} {
		drains(t, done(), front, row...)
	}
}

// without is the row without the i-th.
func without(row []api.Handle, i int) []api.Handle {
	return slices.Delete(slices.Clone(row), i, i+1)
}

func TestExample(t *testing.T) {
	a, b := api.Handle{Slot: 1, Gen: 1}, api.Handle{Slot: 2, Gen: 1}
	l := list.New()
	pushes(t, l, a, false)
	pushes(t, l, b, true)
	has(t, l, b, a)
	pops(t, l, false, a)
	has(t, l, b)
}

func TestP151New(t *testing.T) {
	l := list.New()
	if l == nil {
		t.Fatal("New is nil")
	}
	has(t, l)
	out(t, l, kinds()...)
	has(t, l)
}

// TestP151Push: all rows of up to six pushes at either end.
func TestP151Push(t *testing.T) {
	for n := range 7 {
		for ends := range 1 << n {
			for _, front := range []bool{true, false} {
				l := list.New()
				var row []api.Handle
				for i, h := range some(n) {
					if ends>>i&1 > 0 {
						pushes(t, l, h, true)
						row = slices.Insert(row, 0, h)
					} else {
						pushes(t, l, h, false)
						row = append(row, h)
					}
					has(t, l, row...)
				}
				drains(t, l, front, row...)
			}
		}
	}
}

// TestP151There: the first one, the last one, one between, the only one: none is pushed again, at either end.
func TestP151There(t *testing.T) {
	for n := 1; n < 6; n++ {
		row := some(n)
		bothWays(t, func() *list.List {
			l := listOf(t, row...)
			refuses(t, l, api.ErrThere, row...)
			return l
		}, row...)
	}
}

// TestP151Again: one that was in, and is in no more, is pushed like any other, at either end, however it went.
func TestP151Again(t *testing.T) {
	row := some(4)
	for i, h := range row {
		for _, front := range []bool{true, false} {
			l := listOf(t, row...)
			for range 3 {
				removes(t, l, h)
				has(t, l, without(row, i)...)
				pushes(t, l, h, front)
				refuses(t, l, api.ErrThere, row...)
			}
			if front {
				has(t, l, append([]api.Handle{h}, without(row, i)...)...)
			} else {
				has(t, l, append(without(row, i), h)...)
			}
		}
	}
}

// TestP151Round: whoever is popped at one end is pushed at the same one, or at the other one.
func TestP151Round(t *testing.T) {
	for n := 1; n < 5; n++ {
		row := some(n)
		l := listOf(t, row...)
		for range 2 * n {
			pops(t, l, true, row[0])
			has(t, l, row[1:]...)
			pushes(t, l, row[0], true)
			has(t, l, row...)
			pops(t, l, true, row[0])
			pushes(t, l, row[0], false)
			row = append(row[1:], row[0])
			has(t, l, row...)
		}
		for range 2 * n {
			pops(t, l, false, row[n-1])
			pushes(t, l, row[n-1], false)
			has(t, l, row...)
			pops(t, l, false, row[n-1])
			pushes(t, l, row[n-1], true)
			row = append([]api.Handle{row[n-1]}, row[:n-1]...)
			has(t, l, row...)
		}
	}
}

// TestP151Kinds: handles of every kind are no more to the list than others, and each is told from all others.
func TestP151Kinds(t *testing.T) {
	all := kinds()
	l := list.New()
	for i, h := range all {
		out(t, l, all[i:]...)
		pushes(t, l, h, false)
	}
	has(t, l, all...)
	refuses(t, l, api.ErrThere, all...)
	for i, h := range all {
		removes(t, l, h)
		has(t, l, all[i+1:]...)
	}
	for _, h := range all {
		pushes(t, l, h, true)
	}
	slices.Reverse(all)
	drains(t, l, false, all...)
}

// TestP151Alone: each handle of every kind may be the only one.
func TestP151Alone(t *testing.T) {
	for _, h := range kinds() {
		for _, front := range []bool{true, false} {
			l := list.New()
			pushes(t, l, h, front)
			has(t, l, h)
			refuses(t, l, api.ErrThere, h)
			pops(t, l, !front, h)
			has(t, l)
			pushes(t, l, h, !front)
			removes(t, l, h)
			has(t, l)
		}
	}
}

// TestP151ZeroHandle: it is one like any other: in when it was pushed, and not what an end without a handle answers true of.
func TestP151ZeroHandle(t *testing.T) {
	zero, other := api.Handle{}, api.Handle{Slot: 1, Gen: 1}
	l := list.New()
	out(t, l, zero)
	pushes(t, l, other, true)
	out(t, l, zero)
	pushes(t, l, zero, false)
	has(t, l, other, zero)
	pushes(t, l, api.Handle{Gen: 1}, false)
	has(t, l, other, zero, api.Handle{Gen: 1})
	removes(t, l, zero)
	out(t, l, zero)
	pushes(t, l, zero, true)
	has(t, l, zero, other, api.Handle{Gen: 1})
	pops(t, l, true, zero)
	has(t, l, other, api.Handle{Gen: 1})
}

// TestP151Twins: handles that differ by their slot alone, or by their number alone, are two.
func TestP151Twins(t *testing.T) {
	h := api.Handle{Slot: 3, Gen: 5}
	for _, twin := range []api.Handle{{Slot: 4, Gen: 5}, {Slot: 3, Gen: 6}, {Slot: 5, Gen: 3}, {Slot: -3, Gen: 5}, {Slot: 3}, {Gen: 5}, {Slot: 3 + 1<<32, Gen: 5}, {Slot: 3, Gen: 5 + 1<<32}} {
		l := listOf(t, h)
		out(t, l, twin)
		pushes(t, l, twin, true)
		has(t, l, twin, h)
		refuses(t, l, api.ErrThere, h, twin)
		removes(t, l, h)
		has(t, l, twin)
		pushes(t, l, h, true)
		removes(t, l, twin)
		has(t, l, h)
	}
}

// TestP151Pop: at either end of none, one, two and more.
func TestP151Pop(t *testing.T) {
	for n := range 8 {
		row := some(n)
		bothWays(t, func() *list.List { return listOf(t, row...) }, row...)
	}
}

// TestP151PopEither: all rows of ends at which a row of five is popped.
func TestP151PopEither(t *testing.T) {
	const n = 5
	for ends := range 1 << n {
		row := some(n)
		l := listOf(t, row...)
		for i := range n {
			if ends>>i&1 > 0 {
				pops(t, l, true, row[0])
				row = row[1:]
			} else {
				pops(t, l, false, row[len(row)-1])
				row = row[:len(row)-1]
			}
			has(t, l, row...)
		}
	}
}

// TestP151Peek: what is told at either end stays, however often it is told.
func TestP151Peek(t *testing.T) {
	for n := 1; n < 6; n++ {
		row := some(n)
		bothWays(t, func() *list.List {
			l := listOf(t, row...)
			for range 3 {
				peeks(t, l, true, row[0])
				has(t, l, row...)
				peeks(t, l, false, row[n-1])
				has(t, l, row...)
			}
			return l
		}, row...)
	}
}

// TestP151Remove: the first, the last, one between, the only one; not again, and none that is not in.
func TestP151Remove(t *testing.T) {
	for n := 1; n < 7; n++ {
		row := some(n)
		for i, h := range row {
			bothWays(t, func() *list.List {
				l := listOf(t, row...)
				out(t, l, some(n + 3)[n:]...)
				removes(t, l, h)
				out(t, l, h, h)
				return l
			}, without(row, i)...)
		}
	}
}

// TestP151PopRemove: one that was popped is not there to be removed, nor one that was removed to be popped.
func TestP151PopRemove(t *testing.T) {
	row := some(4)
	l := listOf(t, row...)
	pops(t, l, true, row[0])
	pops(t, l, false, row[3])
	out(t, l, row[0], row[3])
	removes(t, l, row[1])
	pops(t, l, true, row[2])
	has(t, l)
	out(t, l, row...)
}

// orders calls with each order of each choice of the handles.
func orders(handles []api.Handle, call func(order []api.Handle)) {
	var more func(chosen []api.Handle)
	more = func(chosen []api.Handle) {
		call(slices.Clone(chosen))
		for _, h := range handles {
			if !slices.Contains(chosen, h) {
				more(append(slices.Clone(chosen), h))
			}
		}
	}
	more(nil)
}

// TestP151Linked: whichever were removed, in whatever order, those that are left are linked with each other, both ways.
func TestP151Linked(t *testing.T) {
	row := some(5)
	orders(row, func(gone []api.Handle) {
		left := slices.DeleteFunc(slices.Clone(row), func(h api.Handle) bool { return slices.Contains(gone, h) })
		bothWays(t, func() *list.List {
			l := listOf(t, row...)
			for _, h := range gone {
				removes(t, l, h)
			}
			return l
		}, left...)
	})
}

// TestP151LinkedPop: behind a Pop at either end the others are linked as before, and what is pushed there then is linked with them.
func TestP151LinkedPop(t *testing.T) {
	h := api.Handle{Slot: 99, Gen: 9}
	for n := 1; n < 6; n++ {
		row := some(n)
		bothWays(t, func() *list.List {
			l := listOf(t, row...)
			pops(t, l, true, row[0])
			pushes(t, l, h, true)
			return l
		}, append([]api.Handle{h}, row[1:]...)...)
		bothWays(t, func() *list.List {
			l := listOf(t, row...)
			pops(t, l, false, row[n-1])
			pushes(t, l, h, false)
			return l
		}, append(slices.Clone(row[:n-1]), h)...)
	}
}

// TestP152Next: of each one; nothing of the last one, nor of one that is not in, or is in no more.
func TestP152Next(t *testing.T) {
	a, b, c := api.Handle{Slot: 1, Gen: 1}, api.Handle{Slot: 2, Gen: 1}, api.Handle{Slot: 3, Gen: 1}
	l := listOf(t, a)
	last(t, l, a)
	last(t, l, b)
	pushes(t, l, b, false)
	next(t, l, a, b)
	last(t, l, b)
	pushes(t, l, c, true)
	next(t, l, c, a)
	next(t, l, a, b)
	last(t, l, b)
	removes(t, l, a)
	next(t, l, c, b)
	last(t, l, a)
	last(t, l, b)
	pops(t, l, false, b)
	last(t, l, c)
	last(t, l, b)
	has(t, l, c)
}

// TestP152NextWalk: from the first one on, Next tells of all, of none twice.
func TestP152NextWalk(t *testing.T) {
	row := kinds()
	l := listOf(t, row...)
	h, is := l.Peek(true)
	for i := 0; is; i++ {
		if i >= len(row) || h != row[i] {
			t.Fatalf("the %d-th is %v", i, h)
		}
		h, is = l.Next(h)
	}
}

// TestP152AllIsNew: who changes a list that was answered changes neither the row nor another list; what is done to the row changes no list that was answered.
func TestP152AllIsNew(t *testing.T) {
	row := some(4)
	l := listOf(t, row...)
	got, again := l.All(), l.All()
	for i := range got {
		got[i] = api.Handle{Slot: -1, Gen: 99}
	}
	_ = append(got[:1], api.Handle{Slot: 8, Gen: 8})
	_ = append(got, api.Handle{Slot: 7, Gen: 7})
	if !slices.Equal(again, row) {
		t.Fatal("another list was changed to", again)
	}
	has(t, l, row...)
	out(t, l, api.Handle{Slot: -1, Gen: 99})
	removes(t, l, row[1])
	pushes(t, l, row[1], true)
	pops(t, l, false, row[3])
	if !slices.Equal(again, row) {
		t.Fatal("the list changed what it had answered to", again)
	}
	has(t, l, row[1], row[0], row[2])
}

// TestNil: each call of nil, and of a list that New did not make; it does nothing.
func TestNil(t *testing.T) {
	for _, l := range []*list.List{nil, new(list.List), {}} {
		for range 2 {
			has(t, l)
			out(t, l, kinds()...)
			refuses(t, l, api.ErrNil, kinds()...)
			bare(t, l)
		}
	}
}

// TestListsApart: what is done to one list makes no difference to another one, though both have the same handles.
func TestListsApart(t *testing.T) {
	l, m := list.New(), list.New()
	if l == m {
		t.Fatal("New answers one list twice")
	}
	row := some(4)
	for _, h := range row {
		pushes(t, l, h, false)
		out(t, m, h)
	}
	has(t, m)
	for _, h := range row {
		pushes(t, m, h, true)
	}
	other := []api.Handle{row[3], row[2], row[1], row[0]}
	has(t, l, row...)
	has(t, m, other...)
	refuses(t, l, api.ErrThere, row...)
	has(t, m, other...)
	removes(t, l, row[1])
	has(t, m, other...)
	pops(t, m, true, row[3])
	has(t, l, row[0], row[2], row[3])
	pops(t, l, true, row[0])
	pops(t, l, false, row[3])
	removes(t, l, row[2])
	has(t, l)
	drains(t, m, false, other[1:]...)
	has(t, list.New())
}
