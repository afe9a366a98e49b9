package gather_test

import "millrace/api"

// What the chapter's words say, read by themselves: nothing of what is tested is asked here.

// fits is what the chapter of layer 5 says of these records.
func fits(l list) api.Errno {
	bytes := 20
	for _, r := range l {
		if r.Time < 0 || r.Time > api.MaxTime || len(r.Key) > api.MaxKey || len(r.Value) > api.MaxValue {
			return api.ErrArg
		}
		bytes += 12 + len(r.Key) + len(r.Value)
	}
	switch {
	case len(l) == 0:
		return api.ErrArg
	case len(l) > api.MaxRecords, bytes > api.MaxBatch:
		return api.ErrLarge
	}
	return api.OK
}

// all are the records of all lists, in order.
func all(l []list) list {
	var out list
	for _, x := range l {
		out = append(out, x...)
	}
	return out
}

// most is how many are taken: the greatest number of the first ones, at most take, that go into one batch.
func most(take int, l []list) int {
	for n := min(take, len(l)); n > 0; n-- {
		if fits(all(l[:n])) == api.OK {
			return n
		}
	}
	return 0
}

// wrong is the first error that a take and lists have, in the chapter's order.
func wrong(take int, l []list) api.Errno {
	has := map[api.Errno]int{}
	if take < 1 {
		has[api.ErrArg]++
	}
	if len(l) > api.MaxQueue {
		has[api.ErrLong]++
	}
	for _, x := range l {
		has[fits(x)]++
	}
	for _, e := range []api.Errno{api.ErrArg, api.ErrLong, api.ErrLarge} {
		if has[e] > 0 {
			return e
		}
	}
	return api.OK
}

// planned are the numbers that Plan is to answer.
func planned(take int, l []list) []int {
	var out []int
	for len(l) > 0 {
		n := most(take, l)
		out = append(out, n)
		l = l[n:]
	}
	return out
}

// batched is what Batches is to tell.
func batched(take int, base int64, l []list) []batch {
	var out []batch
	for _, n := range planned(take, l) {
		out = append(out, batch{n, api.Batch{Base: base, Records: all(l[:n])}})
		base += int64(len(all(l[:n])))
		l = l[n:]
	}
	return out
}
