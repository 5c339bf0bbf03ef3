package graph

import (
	"warden/api"
	"warden/list"
	"warden/tree"
)

// row is what a place has. What the one kind of it does, and the other one does not, the other one refuses.
type row interface {
	Push(h api.Handle, front bool) api.Errno
	Insert(i int, h api.Handle) api.Errno
	Peek(front bool) (api.Handle, bool)
	At(i int) (api.Handle, bool)
	Len() int
	All() []api.Handle
	kind() uint8
	leave(h api.Handle)
}

// listed is a list as a row.
type listed struct{ *list.List }

func newListed() row {
	return listed{list.New()}
}

// Insert refuses: a list has no places to choose.
func (l listed) Insert(int, api.Handle) api.Errno {
	return api.ErrState
}

// At answers the i-th handle; false, if there is none.
func (l listed) At(i int) (api.Handle, bool) {
	if i < 0 || i >= l.Len() {
		return api.Handle{}, false
	}
	h, is := l.Peek(true)
	for range i {
		h, is = l.Next(h)
	}
	return h, is
}

func (l listed) kind() uint8 {
	return api.PlaceList
}

func (l listed) leave(h api.Handle) {
	l.Remove(h)
}

// treed is a tree as a row.
type treed struct{ *tree.Tree }

func newTreed() row {
	return treed{tree.New()}
}

// Push refuses: what comes into a tree comes to a place.
func (x treed) Push(api.Handle, bool) api.Errno {
	return api.ErrState
}

// Peek answers that there is none: a tree has no ends to ask for.
func (x treed) Peek(bool) (api.Handle, bool) {
	return api.Handle{}, false
}

func (x treed) kind() uint8 {
	return api.PlaceTree
}

func (x treed) leave(h api.Handle) {
	x.Remove(h)
}

// nothing is what a place has that has nothing: a list that is nil answers that it has no handle.
type nothing struct{ listed }

func (n nothing) kind() uint8 {
	return api.PlaceNone
}
