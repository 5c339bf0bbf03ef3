package heap

import "warden/api"

// counted is what has a count: by how many it is held.
type counted struct{ count int }

// object is what a heap knows of one beside its handle and its bytes.
type object struct {
	counted
	kind int
}

// hold answers the count, which is one more than before.
func (c *counted) hold() int {
	c.count++
	return c.count
}

// drop answers the count, which is one less than before; ErrState, if nobody holds it.
func (c *counted) drop() (int, api.Errno) {
	if !c.isHeld() {
		return 0, api.ErrState
	}
	c.count--
	return c.count, api.OK
}

func (c *counted) isHeld() bool {
	return c.count > 0
}
