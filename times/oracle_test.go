package times_test

import "millrace/api"

// plain is an index by the chapter's words: it keeps all records' times, and each call goes through all of them.
type plain struct {
	base  int64
	times []int64
}

// end is End.
func (p *plain) end() int64 { return p.base + int64(len(p.times)) }

// rises is Rises.
func (p *plain) rises() []api.Rise {
	var out []api.Rise
	for i, n := range p.times {
		above := true
		for _, o := range p.times[:i] {
			above = above && n > o
		}
		if above {
			out = append(out, api.Rise{Offset: p.base + int64(i), Time: n})
		}
	}
	return out
}

// find is Find.
func (p *plain) find(time int64) (int64, bool) {
	for i, n := range p.times {
		if n >= time {
			return p.base + int64(i), true
		}
	}
	return 0, false
}

// until is Until.
func (p *plain) until(offset int64) (out int64, found bool) {
	for i, n := range p.times {
		if p.base+int64(i) <= offset && (!found || n > out) {
			out, found = n, true
		}
	}
	return out, found
}

// put is Put, of fewer records than would be too many.
func (p *plain) put(l ...int64) api.Errno {
	for _, n := range l {
		if n < 0 || n > 1<<53 {
			return api.ErrArg
		}
	}
	if p.end()+int64(len(l)) > 1<<53+1 {
		return api.ErrLong
	}
	p.times = append(p.times[:len(p.times):len(p.times)], l...)
	return api.OK
}

// cut is Cut.
func (p *plain) cut(end int64) api.Errno {
	if end < p.base || end > p.end() {
		return api.ErrRange
	}
	p.times = p.times[:end-p.base]
	return api.OK
}

// join is Join.
func (p *plain) join(o *plain) api.Errno {
	if o.base != p.end() {
		return api.ErrRange
	}
	return p.put(o.times...)
}

// told is what Open answers of bytes, by the chapter's words: an index is told if some records' times have its rises.
func told(b []byte) api.Errno {
	if len(b) < 20 {
		return api.ErrMore
	}
	base, end, count := value(b[:8]), value(b[8:16]), value(b[16:20])
	if count <= 1<<16 && uint64(len(b)) < 20+16*count {
		return api.ErrMore
	}
	if count > 1<<16 || uint64(len(b)) != 20+16*count || base > 1<<53 || end < base || end > 1<<53+1 {
		return api.ErrTimes
	}
	// The offsets at which rises must be known: each from the last one's on, the first one at the base, if there are records.
	at, least, any := base, uint64(0), false
	for i := range count {
		offset, time := value(b[20+16*i:28+16*i]), value(b[28+16*i:36+16*i])
		if offset < at || offset >= end || time < least || time > 1<<53 || !any && offset != base {
			return api.ErrTimes
		}
		at, least, any = offset+1, time+1, true
	}
	if any != (end > base) {
		return api.ErrTimes
	}
	return api.OK
}

// value is the number that these bytes are.
func value(b []byte) uint64 {
	x := uint64(0)
	for i := len(b) - 1; i >= 0; i-- {
		x = x*256 + uint64(b[i])
	}
	return x
}
