package owns_test

import (
	"math"
	"slices"
	"strconv"
	"testing"

	"warden/api"
	"warden/owns"
)

// kptr is a type with a kptr of each of these places, in their order.
func kptr(of ...int) api.Type {
	var t api.Type
	for _, i := range of {
		t.Fields = append(t.Fields, api.Field{Kind: api.FieldKptr, Of: i})
	}
	return t
}

// table is one with a type for each list of places that it holds.
func table(of ...[]int) []api.Type {
	var l []api.Type
	for _, each := range of {
		l = append(l, kptr(each...))
	}
	return l
}

// chain is a table of n types, each of which holds the next one; round says whether the last one holds the first one.
func chain(n int, round bool) []api.Type {
	l := make([]api.Type, n)
	for i := range n - 1 {
		l[i] = kptr(i + 1)
	}
	if round {
		l[n-1] = kptr(0)
	}
	return l
}

// down is chain without a round, of which the last one is the first one.
func down(n int) []api.Type {
	l := make([]api.Type, n)
	for i := 1; i < n; i++ {
		l[i] = kptr(i - 1)
	}
	return l
}

// full is a table of n types, each of which holds all that stand behind it.
func full(n int) []api.Type {
	l := make([]api.Type, n)
	for i := range l {
		l[i] = kptr(numbers(i+1, n)...)
	}
	return l
}

// numbers are those from from to one below to.
func numbers(from, to int) []int {
	var l []int
	for i := from; i < to; i++ {
		l = append(l, i)
	}
	return l
}

// repeat is n times the number.
func repeat(x, n int) []int {
	return slices.Repeat([]int{x}, n)
}

// tell holds all calls, of all places of the table, against what is wanted.
type tell struct {
	name  string
	l     []api.Type
	holds [][]int
	reach [][]int
	depth []int
	check []int
}

func (w tell) run(t *testing.T) {
	t.Helper()
	for i := range w.l {
		if got := owns.Holds(w.l, i); !slices.Equal(got, w.holds[i]) {
			t.Errorf("%s: Holds of %d is %v, not %v", w.name, i, got, w.holds[i])
		}
		if got := owns.Reach(w.l, i); !slices.Equal(got, w.reach[i]) {
			t.Errorf("%s: Reach of %d is %v, not %v", w.name, i, got, w.reach[i])
		}
		if got := owns.Depth(w.l, i); got != w.depth[i] {
			t.Errorf("%s: Depth of %d is %d, not %d", w.name, i, got, w.depth[i])
		}
	}
	checked(t, w.name, w.l, w.check)
	outside(t, w.name, w.l)
}

// checked holds what Check answers against the places of those that own themselves.
func checked(t *testing.T, name string, l []api.Type, want []int) {
	t.Helper()
	e := api.OK
	if len(want) > 0 {
		e = api.ErrCycle
	}
	if got, f := owns.Check(l); !slices.Equal(got, want) || f != e {
		t.Errorf("%s: Check is %v, %v, not %v, %v", name, got, f, want, e)
	}
}

// outside holds that nothing is told of what is no place of the table.
func outside(t *testing.T, name string, l []api.Type) {
	t.Helper()
	for _, i := range []int{math.MinInt, -len(l) - 1, -2, -1, len(l), len(l) + 1, 1 << 32, math.MaxInt} {
		if got := owns.Holds(l, i); len(got) > 0 {
			t.Errorf("%s: Holds of %d, which is no place, is %v", name, i, got)
		}
		if got := owns.Reach(l, i); len(got) > 0 {
			t.Errorf("%s: Reach of %d, which is no place, is %v", name, i, got)
		}
		if got := owns.Depth(l, i); got != -1 {
			t.Errorf("%s: Depth of %d, which is no place, is %d", name, i, got)
		}
	}
}

func TestExamples(t *testing.T) {
	tell{
		name: "a holds b, b holds c", l: table([]int{1}, []int{2}, nil),
		holds: [][]int{{1}, {2}, nil}, reach: [][]int{{1, 2}, {2}, nil}, depth: []int{2, 1, 0},
	}.run(t)
	all := []int{0, 1, 2}
	tell{
		name: "c holds a, too", l: table([]int{1}, []int{2}, []int{0}),
		holds: [][]int{{1}, {2}, {0}}, reach: [][]int{all, all, all}, depth: []int{-1, -1, -1}, check: all,
	}.run(t)
}

func TestP111EmptyTables(t *testing.T) {
	for _, l := range [][]api.Type{nil, {}} {
		checked(t, "an empty table", l, nil)
		outside(t, "an empty table", l)
		if got := owns.Holds(l, 0); len(got) > 0 {
			t.Error("Holds of an empty table:", got)
		}
		if got := owns.Depth(l, 0); got != -1 {
			t.Error("Depth of an empty table:", got)
		}
	}
}

func TestP111OneType(t *testing.T) {
	for _, x := range []api.Type{{}, {Fields: []api.Field{}}, {Name: "a", Size: 8}, kptr(1), kptr(-1), kptr(1, -1, 2)} {
		tell{name: "one type that holds none", l: []api.Type{x}, holds: [][]int{nil}, reach: [][]int{nil}, depth: []int{0}}.run(t)
	}
	for _, x := range []api.Type{kptr(0), kptr(0, 0), kptr(-1, 0, 1)} {
		tell{name: "one type that holds itself", l: []api.Type{x}, holds: [][]int{{0}}, reach: [][]int{{0}}, depth: []int{-1}, check: []int{0}}.run(t)
	}
}

// TestP111Kinds: of all kinds that a byte may tell three hold, whatever else the field says.
func TestP111Kinds(t *testing.T) {
	for kind := range 256 {
		for _, f := range []api.Field{
			{Kind: uint8(kind), Of: 1},
			{Name: "f", Kind: uint8(kind), At: 8, Of: 1, Node: 2},
			{Name: "1", Kind: uint8(kind), At: -3, Of: 1, Node: -1},
		} {
			w := tell{
				name: "a field of kind " + strconv.Itoa(kind), l: []api.Type{{Fields: []api.Field{f}}, {}},
				holds: [][]int{nil, nil}, reach: [][]int{nil, nil}, depth: []int{0, 0},
			}
			if kind == 1 || kind == 2 || kind == 4 {
				w.holds[0], w.reach[0], w.depth[0] = []int{1}, []int{1}, 1
			}
			w.run(t)
			f.Of = 0
			w = tell{name: w.name + ", of its own type", l: []api.Type{{Fields: []api.Field{f}}, {}}, holds: [][]int{nil, nil}, reach: [][]int{nil, nil}, depth: []int{0, 0}}
			if kind == 1 || kind == 2 || kind == 4 {
				w.holds[0], w.reach[0], w.depth[0], w.check = []int{0}, []int{0}, -1, []int{0}
			}
			w.run(t)
		}
	}
}

// TestP111Of: each Of that is no place holds none, of each kind that holds, and leaves what others hold.
func TestP111Of(t *testing.T) {
	for _, kind := range []uint8{api.FieldKptr, api.FieldHead, api.FieldRoot} {
		for _, of := range []int{math.MinInt, math.MinInt32, -256, -3, -2, -1, 3, 4, 255, 256, 1 << 32, 1<<32 + 1, math.MaxInt} {
			none := api.Field{Kind: kind, Of: of}
			l := []api.Type{{Fields: []api.Field{none, {Kind: kind, Of: 2}, none}}, {Fields: []api.Field{none}}, {}}
			tell{name: "an Of that is no place", l: l, holds: [][]int{{2}, nil, nil}, reach: [][]int{{2}, nil, nil}, depth: []int{1, 0, 0}}.run(t)
		}
		for of := range 3 {
			l := []api.Type{{}, {Fields: []api.Field{{Kind: kind, Of: of}}}, {}}
			w := tell{name: "an Of that is a place", l: l, holds: [][]int{nil, {of}, nil}, reach: [][]int{nil, {of}, nil}, depth: []int{0, 1, 0}}
			if of == 1 {
				w.depth[1], w.check = -1, []int{1}
			}
			w.run(t)
		}
	}
}

// TestP111EachOnce: fields in any order, several of one type, of unlike kinds: each place once, rising.
func TestP111EachOnce(t *testing.T) {
	fields := []api.Field{
		{Kind: api.FieldRoot, Of: 3}, {Kind: api.FieldNode, Of: 4}, {Kind: api.FieldHead, Of: 1}, {Kind: api.FieldKptr, Of: 3},
		{Kind: api.FieldLock, Of: 2}, {Kind: api.FieldKptr, Of: 1}, {Kind: api.FieldKptr, Of: 5}, {Kind: api.FieldRoot, Of: 1}, {Kind: api.FieldHead, Of: -1},
	}
	l := []api.Type{{Fields: fields}, {}, {}, {}, {}}
	tell{name: "several fields", l: l, holds: [][]int{{1, 3}, nil, nil, nil, nil}, reach: [][]int{{1, 3}, nil, nil, nil, nil}, depth: []int{1, 0, 0, 0, 0}}.run(t)

	l = table([]int{4, 3, 2, 1, 4, 3, 2, 1}, nil, nil, []int{2, 2}, nil)
	tell{name: "falling ones", l: l, holds: [][]int{{1, 2, 3, 4}, nil, nil, {2}, nil}, reach: [][]int{{1, 2, 3, 4}, nil, nil, {2}, nil}, depth: []int{2, 0, 0, 1, 0}}.run(t)

	l = append(table(repeat(1, 100000)), kptr(repeat(0, 100000)...))
	tell{name: "many fields of one type", l: l, holds: [][]int{{1}, {0}}, reach: [][]int{{0, 1}, {0, 1}}, depth: []int{-1, -1}, check: []int{0, 1}}.run(t)
}

func TestP112Circles(t *testing.T) {
	for _, w := range []tell{
		{
			name: "a type that holds itself, between two that do not", l: table([]int{2}, []int{1}, nil),
			holds: [][]int{{2}, {1}, nil}, reach: [][]int{{2}, {1}, nil}, depth: []int{1, -1, 0}, check: []int{1},
		},
		{
			name: "two that hold each other", l: table([]int{1}, []int{0}),
			holds: [][]int{{1}, {0}}, reach: [][]int{{0, 1}, {0, 1}}, depth: []int{-1, -1}, check: []int{0, 1},
		},
		{
			name: "one that only reaches a circle, ahead of it", l: table([]int{1}, []int{2}, []int{3}, []int{2}),
			holds: [][]int{{1}, {2}, {3}, {2}}, reach: [][]int{{1, 2, 3}, {2, 3}, {2, 3}, {2, 3}}, depth: []int{-1, -1, -1, -1}, check: []int{2, 3},
		},
		{
			name: "one that only reaches a circle, behind it", l: table([]int{1}, []int{0}, []int{0}, []int{2}),
			holds: [][]int{{1}, {0}, {0}, {2}}, reach: [][]int{{0, 1}, {0, 1}, {0, 1}, {0, 1, 2}}, depth: []int{-1, -1, -1, -1}, check: []int{0, 1},
		},
		{
			name: "one that is only reached by a circle", l: table([]int{1, 2}, []int{0}, []int{3}, nil),
			holds: [][]int{{1, 2}, {0}, {3}, nil}, reach: [][]int{{0, 1, 2, 3}, {0, 1, 2, 3}, {3}, nil}, depth: []int{-1, -1, 1, 0}, check: []int{0, 1},
		},
		{
			name: "two circles that do not meet", l: table([]int{2}, []int{3}, []int{0}, []int{1}, nil),
			holds: [][]int{{2}, {3}, {0}, {1}, nil}, reach: [][]int{{0, 2}, {1, 3}, {0, 2}, {1, 3}, nil}, depth: []int{-1, -1, -1, -1, 0}, check: []int{0, 1, 2, 3},
		},
		{
			name: "two circles that share a type", l: table([]int{1}, []int{0, 2}, []int{1}),
			holds: [][]int{{1}, {0, 2}, {1}}, reach: [][]int{{0, 1, 2}, {0, 1, 2}, {0, 1, 2}}, depth: []int{-1, -1, -1}, check: []int{0, 1, 2},
		},
		{
			name: "a way from one circle to another one", l: table([]int{1}, []int{0, 2}, []int{3}, []int{4}, []int{3}),
			holds: [][]int{{1}, {0, 2}, {3}, {4}, {3}}, reach: [][]int{{0, 1, 2, 3, 4}, {0, 1, 2, 3, 4}, {3, 4}, {3, 4}, {3, 4}}, depth: []int{-1, -1, -1, -1, -1}, check: []int{0, 1, 3, 4},
		},
		{
			name: "a way between circles, backwards in the table", l: table([]int{1}, []int{0}, []int{1}, []int{2, 4}, []int{3}),
			holds: [][]int{{1}, {0}, {1}, {2, 4}, {3}}, reach: [][]int{{0, 1}, {0, 1}, {0, 1}, {0, 1, 2, 3, 4}, {0, 1, 2, 3, 4}}, depth: []int{-1, -1, -1, -1, -1}, check: []int{0, 1, 3, 4},
		},
		{
			name: "one that reaches a circle, and one that reaches none", l: table([]int{1, 2}, nil, []int{2}, []int{1}),
			holds: [][]int{{1, 2}, nil, {2}, {1}}, reach: [][]int{{1, 2}, nil, {2}, {1}}, depth: []int{-1, 0, -1, 1}, check: []int{2},
		},
	} {
		w.run(t)
	}
}

// TestP112Unlike: of ways of unlike length the longest one counts, in whichever order they are told.
func TestP112Unlike(t *testing.T) {
	for _, of := range [][]int{{1, 4}, {4, 1}, {4, 2, 1}, {1, 2, 3, 4}, {4, 3, 2, 1}} {
		l := table(of, []int{2}, []int{3}, []int{4}, nil)
		for i, want := range []int{4, 3, 2, 1, 0} {
			if got := owns.Depth(l, i); got != want {
				t.Errorf("Depth of %d is %d, not %d, where 0 holds %v", i, got, want, of)
			}
		}
	}
	tell{
		name: "two ways to one type", l: table([]int{3, 1}, []int{2}, []int{3}, nil, []int{0, 2}),
		holds: [][]int{{1, 3}, {2}, {3}, nil, {0, 2}}, reach: [][]int{{1, 2, 3}, {2, 3}, {3}, nil, {0, 1, 2, 3}}, depth: []int{3, 2, 1, 0, 4},
	}.run(t)
}

// TestP112AnyTable: tables that may not be are taken as they are.
func TestP112AnyTable(t *testing.T) {
	node := api.Field{Name: "n", Kind: api.FieldNode, At: 3, Of: 1, Node: 9}
	l := []api.Type{
		{Name: "", Size: -1, Fields: []api.Field{{Kind: api.FieldHead, At: -8, Of: 1, Node: -1}, node, node}},
		{Name: "", Size: 7, Fields: []api.Field{{Kind: api.FieldLock, Of: 2}, {Kind: api.FieldLock, Of: 0}, {Kind: api.FieldRoot, At: math.MaxInt, Of: 2, Node: 77}}},
		{Name: "\xff", Fields: []api.Field{{Kind: 200, Of: 0}, {Kind: 0, Of: 1}}},
	}
	tell{name: "a table that may not be", l: l, holds: [][]int{{1}, {2}, nil}, reach: [][]int{{1, 2}, {2}, nil}, depth: []int{2, 1, 0}}.run(t)
	l[2].Fields[1].Kind = api.FieldRoot
	tell{name: "one with a circle", l: l, holds: [][]int{{1}, {2}, {1}}, reach: [][]int{{1, 2}, {1, 2}, {1, 2}}, depth: []int{-1, -1, -1}, check: []int{1, 2}}.run(t)
}

// TestP112Long: chains, longer than calls may be deep, both ways through the table, and what leads around in them.
func TestP112Long(t *testing.T) {
	for _, n := range []int{2, 33, 1023, 1024, 1025, 1026, 2047, 2048, 2049, 3000, 1 << 17} {
		straight, back, round := chain(n, false), down(n), chain(n, true)
		checked(t, "a chain", straight, nil)
		checked(t, "a chain, from its end on", back, nil)
		checked(t, "a circle of all", round, numbers(0, n))
		for _, i := range []int{0, 1, n / 2, n - 2, n - 1} {
			if got := owns.Depth(straight, i); got != n-1-i {
				t.Errorf("Depth of %d in a chain of %d is %d", i, n, got)
			}
			if got := owns.Reach(straight, i); !slices.Equal(got, numbers(i+1, n)) {
				t.Errorf("Reach of %d in a chain of %d has %d", i, n, len(got))
			}
			if got := owns.Depth(back, i); got != i {
				t.Errorf("Depth of %d in a falling chain of %d is %d", i, n, got)
			}
			if got := owns.Reach(back, i); !slices.Equal(got, numbers(0, i)) {
				t.Errorf("Reach of %d in a falling chain of %d has %d", i, n, len(got))
			}
			if got := owns.Depth(round, i); got != -1 {
				t.Errorf("Depth of %d in a circle of %d is %d", i, n, got)
			}
			if got := owns.Reach(round, i); !slices.Equal(got, numbers(0, n)) {
				t.Errorf("Reach of %d in a circle of %d has %d", i, n, len(got))
			}
		}
		last := chain(n, false)
		last[n-1] = kptr(n - 1)
		checked(t, "a chain whose last one holds itself", last, []int{n - 1})
		if got := owns.Depth(last, 0); got != -1 {
			t.Errorf("Depth of a chain of %d whose last one holds itself is %d", n, got)
		}
		pairs := chain(2*n, false)
		for i := 1; i < 2*n-1; i += 2 {
			pairs[i] = kptr(i-1, i+1)
		}
		pairs[2*n-1] = kptr(2*n - 2)
		checked(t, "a chain of pairs that hold each other", pairs, numbers(0, 2*n))
	}
}

// TestP112Full: each type holds all behind it; then the last one holds one of them, too.
func TestP112Full(t *testing.T) {
	for _, n := range []int{2, 3, 8, 32, 33, 400, 1200} {
		l := full(n)
		checked(t, "all hold all behind them", l, nil)
		for _, i := range []int{0, 1, n / 2, n - 1} {
			if got := owns.Depth(l, i); got != n-1-i {
				t.Errorf("Depth of %d of %d that hold all behind them is %d", i, n, got)
			}
			for _, call := range []func([]api.Type, int) []int{owns.Holds, owns.Reach} {
				if got := call(l, i); !slices.Equal(got, numbers(i+1, n)) {
					t.Errorf("%d of %d that hold all behind them holds, or reaches, %v", i, n, got)
				}
			}
		}
		l[n-1] = kptr(n / 2)
		checked(t, "the last one holds the middle one", l, numbers(n/2, n))
		if got := owns.Depth(l, 0); got != -1 {
			t.Errorf("Depth of %d types with a circle is %d", n, got)
		}
	}
}

// TestR5Memory: an argument stays as it is, and answers are new memory.
func TestR5Memory(t *testing.T) {
	made := func() []api.Type { return table([]int{2, 1, 2}, []int{2, 0}, nil) }
	l := made()
	for range 2 {
		checked := func(l []api.Type, _ int) []int { out, _ := owns.Check(l); return out }
		for i, call := range []func([]api.Type, int) []int{checked, owns.Holds, owns.Reach} {
			got, want := call(l, 0), [][]int{{0, 1}, {1, 2}, {0, 1, 2}}[i]
			if !slices.Equal(got, want) {
				t.Errorf("call %d answers %v, not %v", i, got, want)
			}
			for j := range got {
				got[j] = -7
			}
		}
		owns.Depth(l, 0)
		for i, x := range made() {
			if !slices.Equal(l[i].Fields, x.Fields) {
				t.Error("type", i, "was changed:", l[i])
			}
		}
	}
}
