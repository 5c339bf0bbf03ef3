package list

import "warden/api"

// link is a handle between its neighbours. The row is closed by one link more, its ends, whose handle means nothing: so each link has both neighbours, be it the first one, the last one, or alone.
type link struct {
	h             api.Handle
	ahead, behind *link
}

// newEnds answers the ends of a row without handles.
func newEnds() *link {
	k := &link{}
	k.ahead, k.behind = k, k
	return k
}

// follow puts the handle behind this one, and answers its link.
func (k *link) follow(h api.Handle) *link {
	n := &link{h: h, ahead: k, behind: k.behind}
	k.behind.ahead = n
	k.behind = n
	return n
}

// leave links both neighbours with each other.
func (k *link) leave() {
	k.ahead.behind = k.behind
	k.behind.ahead = k.ahead
}

// others yields the handles of all other links, from the one behind this one on.
func (k *link) others(yield func(api.Handle) bool) {
	for at := k.behind; at != k; at = at.behind {
		if !yield(at.h) {
			return
		}
	}
}
