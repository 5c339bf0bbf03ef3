package slab

// rowLen is how many slots a row has: a row that is full is passed at once by whoever seeks a free slot.
const rowLen = 64

// row is slots, one behind the other. A thing's bytes are as many as its size, nil where a slot is free, so that no byte beyond the size can be reached.
type row struct {
	taken  int
	things [rowLen][]byte
}

// leastFree answers the least slot that is free; it may be the first one behind all rows.
func (s *Slab) leastFree() int {
	slot := len(s.rows) * rowLen
seek:
	for i := range s.rows {
		if s.rows[i].taken == rowLen {
			continue
		}
		for j := range rowLen {
			if s.rows[i].things[j] == nil {
				slot = i*rowLen + j
				break seek
			}
		}
	}
	return slot
}

// thing answers the bytes of the slot's thing; nil, unless it is taken.
func (s *Slab) thing(slot int) []byte {
	if slot < 0 || slot >= len(s.rows)*rowLen {
		return nil
	}
	return s.rows[slot/rowLen].things[slot%rowLen]
}

// fill lays a thing of size bytes into a slot that leastFree answered.
func (s *Slab) fill(slot, size int) {
	if slot == len(s.rows)*rowLen {
		s.rows = append(s.rows, row{})
	}
	r := &s.rows[slot/rowLen]
	r.things[slot%rowLen] = make([]byte, size)
	r.taken++
}

// empty takes the thing out of a slot that is taken.
func (s *Slab) empty(slot int) {
	r := &s.rows[slot/rowLen]
	r.things[slot%rowLen] = nil
	r.taken--
}
