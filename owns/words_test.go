package owns_test

// The chapter's words written out again, in another way: who reaches whom is a square of marks that is filled till nothing comes to it any more, and depths are told from below, round by round. Held against the package over all tables of up to four types, and over many that are drawn.

import (
	"slices"
	"testing"

	"warden/api"
	"warden/owns"
)

// words is what is told of a table.
type words struct {
	holds, reach [][]bool
	depth        []int
}

func wordsOf(l []api.Type) words {
	n := len(l)
	w := words{holds: make([][]bool, n), reach: make([][]bool, n), depth: repeat(-1, n)}
	for i, x := range l {
		w.holds[i] = make([]bool, n)
		for _, f := range x.Fields {
			for j := range l {
				if f.Of == j && (f.Kind == 1 || f.Kind == 2 || f.Kind == 4) {
					w.holds[i][j] = true
				}
			}
		}
		w.reach[i] = slices.Clone(w.holds[i])
	}
	for found := true; found; {
		found = false
		for i := range n * n * n {
			a, b, c := i/n/n, i/n%n, i%n
			if w.holds[a][b] && w.reach[b][c] && !w.reach[a][c] {
				w.reach[a][c], found = true, true
			}
		}
	}
	for found := true; found; {
		found = false
		for i := range l {
			if d := w.depthOf(i); d != w.depth[i] {
				w.depth[i], found = d, true
			}
		}
	}
	return w
}

// depthOf answers the depth of one, as far as those of all that it holds are known.
func (w words) depthOf(i int) int {
	d := 0
	for j, is := range w.holds[i] {
		if is && w.depth[j] < 0 {
			return -1
		}
		if is {
			d = max(d, w.depth[j]+1)
		}
	}
	return d
}

// marked answers the places that are marked.
func marked(row []bool) []int {
	var l []int
	for i, is := range row {
		if is {
			l = append(l, i)
		}
	}
	return l
}

// held holds the package against the words.
func held(t *testing.T, l []api.Type) {
	t.Helper()
	w := wordsOf(l)
	var selves []int
	for i := range l {
		if got, want := owns.Holds(l, i), marked(w.holds[i]); !slices.Equal(got, want) {
			t.Fatalf("Holds of %d is %v, not %v: %v", i, got, want, l)
		}
		if got, want := owns.Reach(l, i), marked(w.reach[i]); !slices.Equal(got, want) {
			t.Fatalf("Reach of %d is %v, not %v: %v", i, got, want, l)
		}
		if got := owns.Depth(l, i); got != w.depth[i] {
			t.Fatalf("Depth of %d is %d, not %d: %v", i, got, w.depth[i], l)
		}
		if w.reach[i][i] {
			selves = append(selves, i)
		}
	}
	want := api.OK
	if len(selves) > 0 {
		want = api.ErrCycle
	}
	if got, e := owns.Check(l); !slices.Equal(got, selves) || e != want {
		t.Fatalf("Check is %v, %v, not %v: %v", got, e, selves, l)
	}
	follows(t, l)
}

// TestWordsAllSmall: all tables of up to four types, by who holds whom.
func TestWordsAllSmall(t *testing.T) {
	for n := range 5 {
		for bits := range 1 << (n * n) {
			l := make([]api.Type, n)
			for i := range n * n {
				if bits>>i&1 == 1 {
					l[i/n].Fields = append(l[i/n].Fields, api.Field{Kind: []uint8{1, 2, 4}[i%3], Of: i % n})
				}
			}
			held(t, l)
		}
	}
}

// drawer draws numbers, the same ones each time.
type drawer uint64

// below draws a number from 0 to one below n.
func (d *drawer) below(n int) int {
	*d = *d*6364136223846793005 + 1442695040888963407
	return int(uint64(*d) >> 33 % uint64(n))
}

// drawn is a table of up to most types, of which about one in rare fields leads backwards in a hidden order.
func drawn(d *drawer, most, rare int) []api.Type {
	n := 1 + d.below(most)
	hidden := numbers(0, n)
	for i := range hidden {
		j := d.below(i + 1)
		hidden[i], hidden[j] = hidden[j], hidden[i]
	}
	l := make([]api.Type, n)
	for range d.below(3*n + 1) {
		a, b := d.below(n), d.below(n)
		if a > b && d.below(rare) > 0 {
			a, b = b, a
		}
		if a == b && d.below(rare) > 0 {
			continue
		}
		f := api.Field{Kind: uint8(d.below(9)), At: d.below(40) - 8, Of: hidden[b], Node: d.below(4)}
		if d.below(3) > 0 {
			f.Kind = []uint8{1, 2, 4}[d.below(3)]
		}
		if d.below(8) == 0 {
			f.Of = []int{-1, n, n + 1, -n, 1 << 40}[d.below(5)]
		}
		l[hidden[a]].Fields = append(l[hidden[a]].Fields, f)
	}
	return l
}

func TestWordsDrawn(t *testing.T) {
	d := drawer(11)
	circles := 0
	for i := range 12000 {
		l := drawn(&d, []int{6, 9, 14, 33}[i%4], []int{2, 10, 60, 1000}[i/4%4])
		held(t, l)
		if _, e := owns.Check(l); e != api.OK {
			circles++
		}
	}
	if circles < 2000 || circles > 10000 {
		t.Error("of 12000 tables so many have circles:", circles)
	}
}
