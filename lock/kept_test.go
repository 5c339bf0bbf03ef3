package lock

import "testing"

// TestKept: nothing is kept of who was given back, nor of who was refused.
func TestKept(t *testing.T) {
	l := New()
	for i := range 5 {
		l.Take(7+i, 8+i)
		l.Take(1, 2)
		l.Give(1, 2)
		l.Give(7+i, 8+i)
		l.Give(7+i, 8+i)
		if want := (Lock{epoch: uint64(i) + 1, made: true}); *l != want {
			t.Fatalf("%v is kept, not %v", *l, want)
		}
	}
}
