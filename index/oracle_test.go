package index_test

import "millrace/api"

// plain is an index by the chapter's words: each call goes through all its spots.
type plain struct {
	step  int
	spots []api.Spot
}

// add is Add.
func (p *plain) add(s api.Spot) (bool, api.Errno) {
	if s.Offset < 0 || s.Offset > 1<<53 || s.Place < 0 || s.Place > 1<<24 {
		return false, api.ErrArg
	}
	for _, o := range p.spots {
		if s.Offset <= o.Offset || s.Place <= o.Place {
			return false, api.ErrArg
		}
	}
	for _, o := range p.spots {
		if s.Place < o.Place+p.step {
			return false, api.OK
		}
	}
	p.spots = append(p.spots, s)
	return true, api.OK
}

// find is Find.
func (p *plain) find(offset int64) (out api.Spot, found bool) {
	for _, s := range p.spots {
		if s.Offset <= offset {
			out, found = s, true
		}
	}
	return out, found
}

// at is At.
func (p *plain) at(place int) (out api.Spot, found bool) {
	for _, s := range p.spots {
		if s.Place <= place {
			out, found = s, true
		}
	}
	return out, found
}

// cut is Cut.
func (p *plain) cut(place int) int {
	var stay []api.Spot
	gone := 0
	for _, s := range p.spots {
		if s.Place >= place {
			gone++
		} else {
			stay = append(stay, s)
		}
	}
	p.spots = stay
	return gone
}

// read is Read: false, if these are no index' bytes.
func read(b []byte) (*plain, bool) {
	if len(b) < 8 {
		return nil, false
	}
	step, count := value(b[:4]), value(b[4:8])
	if step < 1 || step > 1<<24 || uint64(len(b)-8) != 12*count {
		return nil, false
	}
	p := &plain{step: int(step)}
	for at := 8; at < len(b); at += 12 {
		offset, place := value(b[at:at+8]), value(b[at+8:at+12])
		if offset > 1<<53 || place > 1<<24 {
			return nil, false
		}
		if added, _ := p.add(api.Spot{Offset: int64(offset), Place: int(place)}); !added {
			return nil, false
		}
	}
	return p, true
}

// value is the number that these bytes are.
func value(b []byte) uint64 {
	x := uint64(0)
	for i := len(b) - 1; i >= 0; i-- {
		x = x*256 + uint64(b[i])
	}
	return x
}
