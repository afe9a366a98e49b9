package model_test

import (
	"slices"

	"millrace/api"
)

// plain is a model by the chapter's words.
type plain [][]api.Record

// try tells what a call is answered, and the partitions behind it.
func (p plain) try(c api.Call) (api.Reply, plain) {
	part := c.Part >= 0 && c.Part < len(p)
	switch c.Kind {
	case api.CallProduce:
		switch {
		case !part:
			return api.Reply{Err: api.ErrPart}, p
		case !isBatch(c.Records):
			return api.Reply{Err: api.ErrLarge}, p
		}
		next := slices.Clone(p)
		next[c.Part] = slices.Concat(p[c.Part], c.Records)
		return api.Reply{Offset: int64(len(p[c.Part]))}, next
	case api.CallFetch:
		switch {
		case c.Most < 0:
			return api.Reply{Err: api.ErrArg}, p
		case !part:
			return api.Reply{Err: api.ErrPart}, p
		case c.Offset < 0 || c.Offset > int64(len(p[c.Part])):
			return api.Reply{Err: api.ErrRange}, p
		}
		r := api.Reply{Offset: int64(len(p[c.Part]))}
		for i, x := range p[c.Part] {
			if int64(i) >= c.Offset && len(r.Records) < c.Most {
				r.Records = append(r.Records, x)
			}
		}
		return r, p
	}
	return api.Reply{Err: api.ErrArg}, p
}

// fits tells whether a reply fits.
func (p plain) fits(c api.Call, r api.Reply) bool {
	would, _ := p.try(c)
	if sameReply(would, r) {
		return true
	}
	return c.Kind == api.CallProduce && (r.Err == api.ErrFull || r.Err == api.ErrDead) && r.Offset == 0 && len(r.Records) == 0
}

// cut tells what Cut answers, and the partitions behind it.
func (p plain) cut(part, end int) (api.Errno, plain) {
	switch {
	case part < 0 || part >= len(p):
		return api.ErrPart, p
	case end < 0 || end > len(p[part]):
		return api.ErrRange, p
	}
	next := slices.Clone(p)
	next[part] = slices.Clone(p[part][:end])
	return api.OK, next
}

func (p plain) same(o plain) bool { return slices.EqualFunc(p, o, sameRecords) }

// isBatch tells whether records go into one batch.
func isBatch(l []api.Record) bool {
	size := 20
	for _, r := range l {
		if r.Time < 0 || r.Time > 1<<53 || len(r.Key) > 256 || len(r.Value) > 4096 {
			return false
		}
		size += 12 + len(r.Key) + len(r.Value)
	}
	return len(l) >= 1 && len(l) <= 256 && size <= 65536
}
