package array_test

import (
	"math"
	"slices"
	"strings"
	"testing"

	"warden/api"
	"warden/array"
)

// state is all that an array tells of itself.
type state struct {
	size   int
	values []string
}

func stateOf(t *testing.T, a *array.Array) state {
	t.Helper()
	s := state{size: a.Size()}
	for i, slot := range a.Slots() {
		v, is := a.Get(slot)
		if i != slot || !is || len(v) != s.size {
			t.Fatalf("slot %d, the one number %d, of values of %d bytes, has %q, %v", slot, i, s.size, v, is)
		}
		s.values = append(s.values, v)
	}
	return s
}

func (s state) equal(u state) bool {
	return s.size == u.size && slices.Equal(s.values, u.values)
}

// zeros is what an array tells of itself of which nothing was written.
func zeros(size, n int) state {
	return state{size, slices.Repeat([]string{strings.Repeat("\x00", size)}, n)}
}

func made(t *testing.T, size, n int) *array.Array {
	t.Helper()
	a, e := array.New(size, n)
	if a == nil || e != api.OK {
		t.Fatalf("New of %d, %d is %v, %v", size, n, a, e)
	}
	return a
}

// has holds all that the array tells of itself.
func has(t *testing.T, a *array.Array, want state) {
	t.Helper()
	if got := stateOf(t, a); !got.equal(want) {
		t.Fatalf("the array has values of %d bytes, %q, not of %d, %q", got.size, got.values, want.size, want.values)
	}
}

// finds holds that the key leads to that slot.
func finds(t *testing.T, a *array.Array, key string, want int) {
	t.Helper()
	if slot, e := a.Find(key); slot != want || e != api.OK {
		t.Fatalf("Find of %q is %d, %v, not %d", key, slot, e, want)
	}
}

// findsNone holds that the key leads nowhere, with that error.
func findsNone(t *testing.T, a *array.Array, key string, want api.Errno) {
	t.Helper()
	if slot, e := a.Find(key); slot != 0 || e != want {
		t.Fatalf("Find of %q is %d, %v, not %v", key, slot, e, want)
	}
}

// gets holds that the slot's value has these bytes.
func gets(t *testing.T, a *array.Array, slot int, want string) {
	t.Helper()
	if v, is := a.Get(slot); v != want || !is {
		t.Fatalf("Get of %d is %q, %v, not %q", slot, v, is, want)
	}
}

func writes(t *testing.T, a *array.Array, slot, at int, text string) {
	t.Helper()
	if e := a.Write(slot, at, text); e != api.OK {
		t.Fatalf("Write of %d bytes at %d of slot %d is %v", len(text), at, slot, e)
	}
}

// writesNot holds that the text is refused with that error.
func writesNot(t *testing.T, a *array.Array, slot, at int, text string, want api.Errno) {
	t.Helper()
	if e := a.Write(slot, at, text); e != want {
		t.Fatalf("Write of %d bytes at %d of slot %d is %v, not %v", len(text), at, slot, e, want)
	}
}

// keyOf has the number's lowest four bytes, written out one by one.
func keyOf(x uint64) string {
	return string([]byte{byte(x), byte(x / 256), byte(x / 65536), byte(x / 16777216)})
}

// bytesOf are n bytes of which no two that are near are the same.
func bytesOf(n int) string {
	b := make([]byte, n)
	for i := range b {
		b[i] = byte(i + 1)
	}
	return string(b)
}

// filled is an array whose values all differ, and no byte of them is 0; and what it tells of itself.
func filled(t *testing.T, size, n int) (*array.Array, state) {
	t.Helper()
	a, s := made(t, size, n), zeros(size, n)
	for slot := range n {
		s.values[slot] = strings.Repeat(string([]byte{byte(slot%255) + 1}), size)
		writes(t, a, slot, 0, s.values[slot])
	}
	return a, s
}

// sizes are such as may be.
func sizes() []int {
	return []int{1, 2, 3, 7, 8, 9, 64, api.MaxSize - 1, api.MaxSize}
}

// counts are numbers of values that may be.
func counts() []int {
	return []int{1, 2, 3, 16, 255, api.MaxSlots}
}

// noSlots are numbers that are no slots of an array of n values.
func noSlots(n int) []int {
	return []int{math.MinInt, math.MinInt + 1, -1 << 32, -256, -n, -2, -1, n, n + 1, api.MaxSlots, api.MaxSlots + 1, 1 << 16, 1 << 31, 1 << 32, 1<<32 + 1, math.MaxInt - 1, math.MaxInt}
}

func TestExample(t *testing.T) {
	a := made(t, 8, 2)
	finds(t, a, "\x01\x00\x00\x00", 1)
	findsNone(t, a, "\x02\x00\x00\x00", api.ErrNone)
	writes(t, a, 1, 6, "ab")
	gets(t, a, 1, "\x00\x00\x00\x00\x00\x00ab")
	has(t, a, state{8, []string{"\x00\x00\x00\x00\x00\x00\x00\x00", "\x00\x00\x00\x00\x00\x00ab"}})
}

// TestP191New: each size and each number of values that may be; all values are 0.
func TestP191New(t *testing.T) {
	for size := 1; size <= api.MaxSize; size++ {
		for _, n := range counts() {
			has(t, made(t, size, n), zeros(size, n))
		}
	}
	for n := 1; n <= api.MaxSlots; n++ {
		for _, size := range sizes() {
			has(t, made(t, size, n), zeros(size, n))
		}
	}
}

// TestP191NewNot: one of both that may not be is enough.
func TestP191NewNot(t *testing.T) {
	few := []int{math.MinInt, math.MinInt + 1, -1 << 32, -256, -128, -8, -1, 0, 1<<32 + 1, 1 << 32, 1 << 62, math.MaxInt - 1, math.MaxInt}
	noSizes := append([]int{api.MaxSize + 1, api.MaxSize + 2, api.MaxSlots}, few...)
	noCounts := append([]int{api.MaxSlots + 1, api.MaxSlots + 2, 512}, few...)
	refused := func(size, n int) {
		t.Helper()
		if a, e := array.New(size, n); a != nil || e != api.ErrArg {
			t.Errorf("New of %d, %d is %v, %v", size, n, a, e)
		}
	}
	for _, size := range noSizes {
		for _, n := range append(counts(), noCounts...) {
			refused(size, n)
		}
	}
	for _, n := range noCounts {
		for _, size := range sizes() {
			refused(size, n)
		}
	}
}

// TestP191Find: each slot, by its number; the numbers behind the last slot lead nowhere.
func TestP191Find(t *testing.T) {
	for n := 1; n <= api.MaxSlots; n++ {
		a := made(t, 1, n)
		for slot := range n {
			finds(t, a, keyOf(uint64(slot)), slot)
		}
		for x := n; x <= api.MaxSlots+2; x++ {
			findsNone(t, a, keyOf(uint64(x)), api.ErrNone)
		}
	}
}

// TestP191FindFar: keys whose other bytes count, too, up to the greatest number that a key has.
func TestP191FindFar(t *testing.T) {
	for _, n := range counts() {
		a := made(t, 8, n)
		for _, x := range []uint64{1 << 8, 1<<8 + 1, 1 << 9, 1<<16 - 1, 1 << 16, 1<<16 + 1, 1<<24 - 1, 1 << 24, 1<<24 + 1, 1<<31 - 1, 1 << 31, 1<<31 + 1, 1<<32 - 256, 1<<32 - 2, 1<<32 - 1} {
			findsNone(t, a, keyOf(x), api.ErrNone)
		}
	}
	a := made(t, 8, 2)
	for at := 1; at < api.KeyArray; at++ {
		for b := 1; b < 256; b++ {
			key := []byte(keyOf(1))
			key[at] = byte(b)
			findsNone(t, a, string(key), api.ErrNone)
		}
	}
}

// TestP191FindKey: no key of another length leads anywhere, whatever slot its bytes would tell; and that comes ahead of which number it is.
func TestP191FindKey(t *testing.T) {
	for _, n := range counts() {
		a := made(t, 8, n)
		for _, b := range []string{"\x00", "\x01", "\x07", "\xff"} {
			for long := range 20 {
				for _, key := range []string{strings.Repeat(b, long), (b + strings.Repeat("\x00", 19))[:long]} {
					if len(key) != api.KeyArray {
						findsNone(t, a, key, api.ErrArg)
					}
				}
			}
		}
		findsNone(t, a, "", api.ErrArg)
		findsNone(t, a, "0", api.ErrArg)
		findsNone(t, a, strings.Repeat("\x00", 256), api.ErrArg)
		findsNone(t, a, strings.Repeat("\x00", 1<<20), api.ErrArg)
	}
}

// TestP191Slots: all of them, rising; who changes the row changes no array, nor another row.
func TestP191Slots(t *testing.T) {
	for _, n := range counts() {
		a, s := filled(t, 4, n)
		want := make([]int, n)
		for i := range want {
			want[i] = i
		}
		got, again := a.Slots(), a.Slots()
		if !slices.Equal(got, want) {
			t.Fatalf("Slots are %v, not %v", got, want)
		}
		for i := range got {
			got[i] = -1 - i
		}
		_ = append(got[:0], 7, 8, 9)
		_ = append(got, 10)
		if !slices.Equal(again, want) || !slices.Equal(a.Slots(), want) {
			t.Fatalf("Slots are %v, and were %v, not %v", a.Slots(), again, want)
		}
		has(t, a, s)
	}
}

// TestP191Size: as it was made, whatever was written.
func TestP191Size(t *testing.T) {
	for size := 1; size <= api.MaxSize; size++ {
		a := made(t, size, 2)
		for _, at := range []int{0, size - 1, size, size + 1} {
			a.Write(1, at, "x")
			if got := a.Size(); got != size {
				t.Fatalf("Size is %d, not %d", got, size)
			}
		}
	}
}

// TestP192Get: every slot's own value, and nothing of what is no slot.
func TestP192Get(t *testing.T) {
	for _, n := range counts() {
		for _, size := range sizes() {
			a, s := filled(t, size, n)
			for slot := range n {
				gets(t, a, slot, s.values[slot])
			}
			for _, slot := range noSlots(n) {
				if v, is := a.Get(slot); v != "" || is {
					t.Fatalf("Get of %d, of %d slots, is %q, %v", slot, n, v, is)
				}
			}
			has(t, a, s)
		}
	}
}

// TestP192Zeros: all bytes are 0, till they are written.
func TestP192Zeros(t *testing.T) {
	a := made(t, 6, 3)
	for slot := range 3 {
		gets(t, a, slot, "\x00\x00\x00\x00\x00\x00")
	}
	writes(t, a, 1, 2, "a")
	gets(t, a, 0, "\x00\x00\x00\x00\x00\x00")
	gets(t, a, 1, "\x00\x00a\x00\x00\x00")
	gets(t, a, 2, "\x00\x00\x00\x00\x00\x00")
}

// edges are places ahead of, in, and behind a value of that size, and such that their sum with others goes round.
func edges(size int) []int {
	l := []int{
		math.MinInt, math.MinInt + 1, math.MinInt + size, -1 << 32, -size - 1, -size, -2, -1, 0, 1, size / 2, size - 1, size, size + 1,
		api.MaxSize - 1, api.MaxSize, api.MaxSize + 1, 1 << 31, 1 << 32, 1<<32 + 1,
		math.MaxInt - size - 1, math.MaxInt - size, math.MaxInt - 1, math.MaxInt,
	}
	slices.Sort(l)
	return slices.Compact(l)
}

// inside answers whether n bytes from at on are in a value of that size, without a sum that goes round.
func inside(size, at, n int) bool {
	return at >= 0 && at <= size && n <= size && at+n <= size
}

// TestP192Write: texts of every length about the edges, at each edge, of each size: those that end within the value are there, the others change nothing.
func TestP192Write(t *testing.T) {
	for size := 1; size <= api.MaxSize; size++ {
		a, s := filled(t, size, 3)
		for i, at := range edges(size) {
			for _, n := range edges(size) {
				if n < 0 || n > 1<<10 {
					continue
				}
				text := strings.Repeat(string([]byte{byte('A' + i)}), n)
				if inside(size, at, n) {
					writes(t, a, 1, at, text)
					s.values[1] = s.values[1][:at] + text + s.values[1][at+n:]
				} else {
					writesNot(t, a, 1, at, text, api.ErrOver)
				}
				has(t, a, s)
			}
		}
	}
}

// TestP192WriteAll: each piece of a value, and each that ends one byte behind it.
func TestP192WriteAll(t *testing.T) {
	for _, size := range []int{1, 2, 8, 9, 33} {
		for at := range size + 1 {
			for n := range size + 1 - at {
				a := made(t, size, 2)
				text := bytesOf(n)
				writes(t, a, 0, at, text)
				gets(t, a, 0, strings.Repeat("\x00", at)+text+strings.Repeat("\x00", size-at-n))
				gets(t, a, 1, strings.Repeat("\x00", size))
			}
			a, s := filled(t, size, 2)
			writesNot(t, a, 0, at, bytesOf(size+1-at), api.ErrOver)
			has(t, a, s)
		}
	}
}

// TestP192Whole: a text of a value's length has one place alone.
func TestP192Whole(t *testing.T) {
	a, s := filled(t, 8, 2)
	for _, at := range []int{math.MinInt, -8, -1, 1, 7, 8, 9, math.MaxInt - 7, math.MaxInt} {
		writesNot(t, a, 0, at, "abcdefgh", api.ErrOver)
		has(t, a, s)
	}
	writes(t, a, 0, 0, "abcdefgh")
	gets(t, a, 0, "abcdefgh")
	writesNot(t, a, 0, 0, "abcdefghi", api.ErrOver)
	gets(t, a, 0, "abcdefgh")
}

// TestP192Empty: a text without bytes stands anywhere from 0 to the end, in a slot that there is.
func TestP192Empty(t *testing.T) {
	a, s := filled(t, 10, 2)
	for at := range 11 {
		writes(t, a, 1, at, "")
		has(t, a, s)
	}
	for _, at := range []int{math.MinInt, -11, -10, -1, 11, 12, api.MaxSize, api.MaxSize + 1, math.MaxInt} {
		writesNot(t, a, 1, at, "", api.ErrOver)
	}
	for _, at := range []int{-1, 0, 5, 10, 11} {
		writesNot(t, a, 2, at, "", api.ErrNone)
		writesNot(t, a, -1, at, "", api.ErrNone)
	}
	has(t, a, s)
}

// TestP192Long: texts that are longer than any value.
func TestP192Long(t *testing.T) {
	a, s := filled(t, api.MaxSize, 2)
	for _, n := range []int{api.MaxSize + 1, 2 * api.MaxSize, 1 << 20} {
		text := strings.Repeat("x", n)
		for _, at := range []int{math.MinInt, -n, api.MaxSize - n, -1, 0, 1, api.MaxSize, math.MaxInt - n, math.MaxInt} {
			writesNot(t, a, 1, at, text, api.ErrOver)
			has(t, a, s)
		}
	}
}

// TestP192None: of what is no slot nothing is written; that comes ahead of where it would be.
func TestP192None(t *testing.T) {
	for _, n := range counts() {
		a, s := filled(t, 8, n)
		for _, slot := range noSlots(n) {
			for _, at := range []int{math.MinInt, -1, 0, 7, 8, 9, math.MaxInt} {
				for _, text := range []string{"", "x", "abcdefgh", bytesOf(9), bytesOf(200)} {
					writesNot(t, a, slot, at, text, api.ErrNone)
				}
			}
		}
		has(t, a, s)
	}
}

// TestP192Over: what is written over what was written; bytes beside it stay.
func TestP192Over(t *testing.T) {
	a := made(t, 8, 2)
	for _, c := range []struct {
		at         int
		text, want string
	}{
		{0, "abcdefgh", "abcdefgh"}, {2, "XY", "abXYefgh"}, {3, "12345", "abX12345"}, {0, "abX1", "abX12345"},
		{3, "", "abX12345"}, {7, "\x00", "abX1234\x00"}, {0, "z", "zbX1234\x00"}, {1, "yyyyyyy", "zyyyyyyy"},
		{0, "\x00\x00\x00\x00\x00\x00\x00\x00", "\x00\x00\x00\x00\x00\x00\x00\x00"},
	} {
		writes(t, a, 1, c.at, c.text)
		gets(t, a, 1, c.want)
		gets(t, a, 0, "\x00\x00\x00\x00\x00\x00\x00\x00")
	}
}

// TestP192AnyBytes: a value has each byte there is, as it was written.
func TestP192AnyBytes(t *testing.T) {
	a := made(t, 8, 1)
	for b := range 256 {
		text := string([]byte{byte(b), 0, byte(255 - b), byte(b), '\n', 0xff, 0xc3, byte(b)})
		writes(t, a, 0, 0, text)
		gets(t, a, 0, text)
	}
}

// TestP192Answers: what was got stays as it was, whatever is written behind it.
func TestP192Answers(t *testing.T) {
	a := made(t, 4, 1)
	writes(t, a, 0, 0, "abcd")
	v, _ := a.Get(0)
	writes(t, a, 0, 0, "wxyz")
	if v != "abcd" {
		t.Fatalf("what was got is %q now", v)
	}
	gets(t, a, 0, "wxyz")
}

// TestP193Slots: of many values each is written by itself, at the first byte and at the last one, and no other one is touched.
func TestP193Slots(t *testing.T) {
	for _, n := range []int{1, 2, 17, api.MaxSlots} {
		for _, size := range []int{1, 8, api.MaxSize} {
			a, s := made(t, size, n), zeros(size, n)
			for i := range n {
				slot := (i*7 + 3) % n
				v := []byte(s.values[slot])
				v[0], v[size-1] = byte(i), byte(slot+1)
				writes(t, a, slot, 0, string(v[:1]))
				writes(t, a, slot, size-1, string(v[size-1:]))
				s.values[slot] = string(v)
				has(t, a, s)
			}
		}
	}
}

// TestP193Arrays: what is written into one array makes no difference to another one, of the same sizes or of others.
func TestP193Arrays(t *testing.T) {
	a, b, c := made(t, 8, 3), made(t, 8, 3), made(t, 16, 2)
	writes(t, a, 1, 0, "abcdefgh")
	has(t, b, zeros(8, 3))
	has(t, c, zeros(16, 2))
	writes(t, b, 1, 4, "1234")
	writes(t, c, 1, 12, "wxyz")
	writesNot(t, a, 1, 12, "wxyz", api.ErrOver)
	writesNot(t, c, 2, 0, "wxyz", api.ErrNone)
	none := "\x00\x00\x00\x00\x00\x00\x00\x00"
	has(t, a, state{8, []string{none, "abcdefgh", none}})
	has(t, b, state{8, []string{none, "\x00\x00\x00\x001234", none}})
	has(t, c, state{16, []string{none + none, none + "\x00\x00\x00\x00wxyz"}})
	has(t, made(t, 8, 3), zeros(8, 3))
}

// TestP193Asked: who asks changes nothing, however often.
func TestP193Asked(t *testing.T) {
	a, s := filled(t, 8, 3)
	for range 3 {
		finds(t, a, keyOf(2), 2)
		findsNone(t, a, keyOf(3), api.ErrNone)
		findsNone(t, a, "\x01", api.ErrArg)
		gets(t, a, 0, s.values[0])
		a.Get(3)
		has(t, a, s)
	}
}

// TestNil: each call of nil, and of an array that New did not make, ahead of all else; it does nothing.
func TestNil(t *testing.T) {
	for _, a := range []*array.Array{nil, {}, new(array.Array)} {
		for range 2 {
			for _, key := range []string{"", "\x00", keyOf(0), keyOf(1), keyOf(1<<32 - 1), bytesOf(5)} {
				findsNone(t, a, key, api.ErrNil)
			}
			for _, slot := range append(noSlots(1), 0) {
				if v, is := a.Get(slot); v != "" || is {
					t.Errorf("Get of nil is %q, %v", v, is)
				}
				for _, at := range []int{math.MinInt, -1, 0, 1, math.MaxInt} {
					writesNot(t, a, slot, at, "", api.ErrNil)
					writesNot(t, a, slot, at, "x", api.ErrNil)
				}
			}
			if l, size := a.Slots(), a.Size(); len(l) != 0 || size != 0 {
				t.Errorf("nil has %v, of %d bytes", l, size)
			}
		}
	}
}
