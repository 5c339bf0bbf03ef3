package heap_test

import (
	"math"
	"slices"
	"sort"
	"strings"
	"testing"

	"warden/api"
	"warden/heap"
	"warden/slab"
)

// object is one as a heap tells of it.
type object struct {
	h           api.Handle
	kind, count int
	bytes       string
}

// state is all that a heap tells of itself.
type state struct {
	room, used int
	objects    []object
}

// sizeOf is how many bytes an object has: Read alone tells that.
func sizeOf(x *heap.Heap, h api.Handle) int {
	return sort.Search(api.MaxSize, func(at int) bool {
		_, e := x.Read(h, at, 1)
		return e != api.OK
	})
}

func stateOf(t *testing.T, x *heap.Heap) state {
	t.Helper()
	s := state{room: x.Room(), used: x.Used()}
	for _, h := range x.Live() {
		kind, is := x.Kind(h)
		count, has := x.Count(h)
		bytes, e := x.Read(h, 0, sizeOf(x, h))
		if !is || !has || e != api.OK {
			t.Fatalf("%v lives: Kind %d, %v, Count %d, %v, Read %q, %v", h, kind, is, count, has, bytes, e)
		}
		s.objects = append(s.objects, object{h, kind, count, bytes})
	}
	return s
}

func (s state) equal(o state) bool {
	return s.room == o.room && s.used == o.used && slices.Equal(s.objects, o.objects)
}

// made is a heap with that room, and with objects of these sizes, from slot 0 on, whose kinds are their slots and 100.
func made(t *testing.T, room int, sizes ...int) *heap.Heap {
	t.Helper()
	x, e := heap.New(room)
	if x == nil || e != api.OK {
		t.Fatal("New of", room, "is", x, e)
	}
	for slot, size := range sizes {
		makes(t, x, 100+slot, size, slot, 1)
	}
	return x
}

// makes holds that the next object has that slot and number, that it is of that kind, held once, and that its bytes are that many, all of them 0.
func makes(t *testing.T, x *heap.Heap, kind, size, slot int, number uint64) api.Handle {
	t.Helper()
	want := api.Handle{Slot: slot, Gen: number}
	if got, e := x.Make(kind, size); got != want || e != api.OK {
		t.Fatalf("Make of %d bytes is %v, %v, not %v", size, got, e, want)
	}
	tells(t, x, object{want, kind, 1, strings.Repeat("\x00", size)})
	return want
}

// tells holds all that a heap tells of one that lives.
func tells(t *testing.T, x *heap.Heap, want object) {
	t.Helper()
	if kind, is := x.Kind(want.h); kind != want.kind || !is {
		t.Fatalf("Kind of %v is %d, %v, not %d", want.h, kind, is, want.kind)
	}
	if count, is := x.Count(want.h); count != want.count || !is {
		t.Fatalf("Count of %v is %d, %v, not %d", want.h, count, is, want.count)
	}
	if size := sizeOf(x, want.h); size != len(want.bytes) {
		t.Fatalf("%v has %d bytes, not %d", want.h, size, len(want.bytes))
	}
	reads(t, x, want.h, 0, want.bytes)
}

// holds holds that the object's count is that, behind one Hold more.
func holds(t *testing.T, x *heap.Heap, h api.Handle, want int) {
	t.Helper()
	got, e := x.Hold(h)
	if count, is := x.Count(h); got != want || e != api.OK || count != want || !is {
		t.Fatalf("Hold of %v is %d, %v, Count then %d, %v, not %d", h, got, e, count, is, want)
	}
}

// drops holds that the object's count is that, behind one Drop more.
func drops(t *testing.T, x *heap.Heap, h api.Handle, want int) {
	t.Helper()
	got, e := x.Drop(h)
	if count, is := x.Count(h); got != want || e != api.OK || count != want || !is {
		t.Fatalf("Drop of %v is %d, %v, Count then %d, %v, not %d", h, got, e, count, is, want)
	}
}

// frees drops each object as often as it is held, and holds that it is no more then.
func frees(t *testing.T, x *heap.Heap, handles ...api.Handle) {
	t.Helper()
	for _, h := range handles {
		count, _ := x.Count(h)
		for left := count - 1; left >= 0; left-- {
			drops(t, x, h, left)
		}
		if e := x.Free(h); e != api.OK {
			t.Fatalf("Free of %v is %v", h, e)
		}
		stale(t, x, h)
	}
}

func reads(t *testing.T, x *heap.Heap, h api.Handle, at int, want string) {
	t.Helper()
	if got, e := x.Read(h, at, len(want)); got != want || e != api.OK {
		t.Fatalf("Read of %v, %d bytes from %d on, is %q, %v, not %q", h, len(want), at, got, e, want)
	}
}

func writes(t *testing.T, x *heap.Heap, h api.Handle, at int, text string) {
	t.Helper()
	if e := x.Write(h, at, text); e != api.OK {
		t.Fatalf("Write of %q into %v at %d is %v", text, h, at, e)
	}
}

// has holds what is used, and which objects live.
func has(t *testing.T, x *heap.Heap, room, used int, handles ...api.Handle) {
	t.Helper()
	if x.Room() != room || x.Used() != used || !slices.Equal(x.Live(), handles) {
		t.Fatalf("%d of %d are used, %v live, not %d of %d, %v", x.Used(), x.Room(), x.Live(), used, room, handles)
	}
}

// refused is a call with the error that it is to answer, and whether its other result is zero, as it is to be.
type refused struct {
	name string
	call func() (zero bool, e api.Errno)
	want api.Errno
}

// refuses holds that each call answers its error, and changes nothing.
func refuses(t *testing.T, x *heap.Heap, calls ...refused) {
	t.Helper()
	before := stateOf(t, x)
	for _, r := range calls {
		if zero, e := r.call(); !zero || e != r.want {
			t.Fatalf("%s is %v, not %v (zero beside it: %v)", r.name, e, r.want, zero)
		}
		if after := stateOf(t, x); !before.equal(after) {
			t.Fatalf("%s changed %v to %v", r.name, before, after)
		}
	}
}

func noMake(x *heap.Heap, kind, size int, want api.Errno) refused {
	return refused{"Make", func() (bool, api.Errno) { h, e := x.Make(kind, size); return h == (api.Handle{}), e }, want}
}

func noHold(x *heap.Heap, h api.Handle, want api.Errno) refused {
	return refused{"Hold", func() (bool, api.Errno) { n, e := x.Hold(h); return n == 0, e }, want}
}

func noDrop(x *heap.Heap, h api.Handle, want api.Errno) refused {
	return refused{"Drop", func() (bool, api.Errno) { n, e := x.Drop(h); return n == 0, e }, want}
}

func noFree(x *heap.Heap, h api.Handle, want api.Errno) refused {
	return refused{"Free", func() (bool, api.Errno) { return true, x.Free(h) }, want}
}

func noRead(x *heap.Heap, h api.Handle, at, n int, want api.Errno) refused {
	return refused{"Read", func() (bool, api.Errno) { text, e := x.Read(h, at, n); return text == "", e }, want}
}

func noWrite(x *heap.Heap, h api.Handle, at int, text string, want api.Errno) refused {
	return refused{"Write", func() (bool, api.Errno) { return true, x.Write(h, at, text) }, want}
}

// places are numbers that are no place in any object, and such that are one.
func places() []int {
	return []int{math.MinInt, -1, 0, 1, 8, 128, 129, 1 << 32, math.MaxInt}
}

// allOf are all calls of a handle that answer an error, with arguments that may be and that may not be.
func allOf(x *heap.Heap, h api.Handle, want api.Errno) []refused {
	out := []refused{noHold(x, h, want), noDrop(x, h, want), noFree(x, h, want)}
	for _, at := range places() {
		for _, n := range places() {
			out = append(out, noRead(x, h, at, n, want))
		}
		for _, text := range []string{"", "x", strings.Repeat("y", 129)} {
			out = append(out, noWrite(x, h, at, text, want))
		}
	}
	return out
}

// unknown holds that the heap tells neither kind nor count of the handles.
func unknown(t *testing.T, x *heap.Heap, handles ...api.Handle) {
	t.Helper()
	for _, h := range handles {
		if kind, is := x.Kind(h); kind != 0 || is {
			t.Fatalf("Kind of %v, that does not live, is %d, %v", h, kind, is)
		}
		if count, is := x.Count(h); count != 0 || is {
			t.Fatalf("Count of %v, that does not live, is %d, %v", h, count, is)
		}
	}
}

// stale holds that none of the handles is of any use, and that who tries changes nothing.
func stale(t *testing.T, x *heap.Heap, handles ...api.Handle) {
	t.Helper()
	for _, h := range handles {
		unknown(t, x, h)
		refuses(t, x, allOf(x, h, api.ErrStale)...)
		unknown(t, x, h)
	}
}

func TestExample(t *testing.T) {
	x := made(t, 16)
	h := makes(t, x, 7, 16, 0, 1)
	holds(t, x, h, 2)
	drops(t, x, h, 1)
	drops(t, x, h, 0)
	if e := x.Free(h); e != api.OK {
		t.Fatal("Free is", e)
	}
	has(t, x, 16, 0)
	has(t, x, 16, 16, makes(t, x, 7, 16, 0, 2))
}

func TestP141New(t *testing.T) {
	for _, room := range []int{0, 1, 7, 8, 100, 65535, 65536} {
		x := made(t, room)
		has(t, x, room, 0)
		stale(t, x, api.Handle{}, api.Handle{Gen: 1})
	}
	for _, room := range []int{math.MinInt, -1 << 32, -65536, -8, -1, 65537, 65536 + 8, 1 << 32, 1<<32 + 8, math.MaxInt} {
		if x, e := heap.New(room); x != nil || e != api.ErrArg {
			t.Errorf("New of %d is %v, %v", room, x, e)
		}
	}
}

// TestP141NewLikeSlab: whatever slab.New answers of a room about both ends.
func TestP141NewLikeSlab(t *testing.T) {
	for i := range 600 {
		for _, room := range []int{i - 300, api.MaxRoom + i - 300} {
			s, want := slab.New(room)
			x, e := heap.New(room)
			if e != want || (x == nil) != (s == nil) || x.Room() != s.Room() {
				t.Errorf("New of %d is %v, room %d, not %v, room %d", room, e, x.Room(), want, s.Room())
			}
		}
	}
}

// sizes are such as an object may have, and such as none has.
func sizes() []int {
	out := []int{math.MinInt, math.MinInt + 1, -1 << 32, -256, -128, -8, 1 << 16, 1 << 31, 1 << 32, 1<<32 + 8, math.MaxInt - 8, math.MaxInt}
	for size := -1; size < 260; size++ {
		out = append(out, size)
	}
	return out
}

// TestP141MakeLikeSlab: whatever slab.Take answers, in slabs that have as much room and as much in them.
func TestP141MakeLikeSlab(t *testing.T) {
	for _, room := range []int{0, 7, 8, 15, 16, 31, 32, 63, 64, 127, 128, 136, 200, api.MaxRoom} {
		for _, ahead := range [][]int{nil, {8}, {5, 9}, {128}} {
			for _, size := range sizes() {
				x, _ := heap.New(room)
				s, _ := slab.New(room)
				for _, n := range ahead {
					x.Make(1, n)
					s.Take(n)
				}
				slot, want := s.Take(size)
				h, e := x.Make(1, size)
				if h.Slot != slot || e != want || x.Used() != s.Used() || x.Room() != room || len(x.Live()) != len(s.Slots()) {
					t.Fatalf("Make of %d bytes, room %d, behind %v, is %v, %v, %d used, not slot %d, %v, %d used", size, room, ahead, h, e, x.Used(), slot, want, s.Used())
				}
			}
		}
	}
}

// TestP141MakeRefused: with the slab's own error, ErrArg ahead of ErrFull, and nothing is changed by it.
func TestP141MakeRefused(t *testing.T) {
	x, full := made(t, 256, 8, 16), made(t, 24, 8, 16)
	for _, size := range sizes() {
		if size >= 1 && size <= api.MaxSize {
			refuses(t, full, noMake(full, size, size, api.ErrFull))
		} else {
			refuses(t, full, noMake(full, 1, size, api.ErrArg))
			refuses(t, x, noMake(x, 1, size, api.ErrArg))
		}
	}
	has(t, full, 24, 24, api.Handle{Slot: 0, Gen: 1}, api.Handle{Slot: 1, Gen: 1})
}

// TestP141MakeRefusedNoNumber: a Make that is refused takes no number, of no slot.
func TestP141MakeRefusedNoNumber(t *testing.T) {
	x := made(t, 16, 8)
	for number := uint64(1); number < 5; number++ {
		refuses(t, x, noMake(x, 1, 9, api.ErrFull), noMake(x, 1, 0, api.ErrArg), noMake(x, 1, 129, api.ErrArg))
		h := makes(t, x, 1, 8, 1, number)
		refuses(t, x, noMake(x, 1, 1, api.ErrFull))
		frees(t, x, h)
	}
}

// kinds are numbers of all sorts: each may be a kind.
func kinds() []int {
	return []int{math.MinInt, math.MinInt + 1, -1 << 32, math.MinInt32 - 1, math.MinInt32, -65536, -256, -2, -1, 0, 1, 2, 127, 128, 255, 256, 65536, math.MaxInt32, 1 << 31, math.MaxUint32, 1 << 32, 1<<32 + 1, math.MaxInt - 1, math.MaxInt}
}

func TestP141Kinds(t *testing.T) {
	x := made(t, 512)
	for slot, kind := range kinds() {
		makes(t, x, kind, 8, slot, 1)
	}
	for slot, kind := range kinds() {
		h := api.Handle{Slot: slot, Gen: 1}
		tells(t, x, object{h, kind, 1, strings.Repeat("\x00", 8)})
		frees(t, x, h)
		makes(t, x, kind, 9, slot, 2)
	}
	for slot, kind := range kinds() {
		tells(t, x, object{api.Handle{Slot: slot, Gen: 2}, kind, 1, strings.Repeat("\x00", 9)})
	}
}

// TestP141Zeroes: of whatever was written into an object nothing is found in the one that has its slot next, whatever the sizes; nor of its kind and count.
func TestP141Zeroes(t *testing.T) {
	all := []int{1, 7, 8, 9, 16, 17, 31, 32, 33, 64, 65, 127, 128}
	for _, old := range all {
		for _, size := range all {
			x := made(t, 512, 8)
			h := makes(t, x, -5, old, 1, 1)
			last := makes(t, x, 3, 8, 2, 1)
			writes(t, x, h, 0, strings.Repeat("\xff", old))
			writes(t, x, last, 0, "\xff\xff\xff\xff\xff\xff\xff\xff")
			holds(t, x, h, 2)
			frees(t, x, h)
			h = makes(t, x, 6, size, 1, 2)
			writes(t, x, h, size-1, "\xee")
			frees(t, x, h)
			makes(t, x, 0, old, 1, 3)
		}
	}
}

// TestP141All: of each class as many as MaxRoom has room for, and no more.
func TestP141All(t *testing.T) {
	for _, class := range []int{8, 16, 32, 64, 128} {
		x := made(t, api.MaxRoom)
		var all []api.Handle
		for slot := range api.MaxRoom / class {
			h, e := x.Make(slot, class-class/2+1)
			if h != (api.Handle{Slot: slot, Gen: 1}) || e != api.OK {
				t.Fatalf("Make is %v, %v, not slot %d", h, e, slot)
			}
			all = append(all, h)
		}
		has(t, x, api.MaxRoom, api.MaxRoom, all...)
		for _, size := range []int{1, class, 128} {
			if h, e := x.Make(1, size); h != (api.Handle{}) || e != api.ErrFull {
				t.Fatalf("Make of %d bytes, where no room is left, is %v, %v", size, h, e)
			}
		}
		frees(t, x, all[5])
		all[5] = makes(t, x, 9, class, 5, 2)
		has(t, x, api.MaxRoom, api.MaxRoom, all...)
	}
}
