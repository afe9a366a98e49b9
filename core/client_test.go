package core_test

import (
	"math"
	"testing"

	"millrace/api"
)

// ten is a core of one partition with ten records, written as batches of 1, 2, 3 and 4 in segments of a batch each, the first so many of which are dropped ahead of the core's opening.
func ten(t *testing.T, dropped int64) *pair {
	t.Helper()
	c := usual
	c.Log = api.LogConfig{Roll: 1, Step: 1}
	d := fresh(t)
	l := logOn(t, d, "pa", c.Log)
	at := 0
	for _, n := range []int{1, 2, 3, 4} {
		_, e := l.Append(all10()[at : at+n]...)
		oks(t, e)
		at += n
	}
	oks(t, l.Sync())
	_, e := l.Drop(dropped)
	oks(t, e)
	return both(t, d, c)
}

func all10() []api.Record { return some(10, 5) }

// P16.3: each offset near and far, each Most, of a log that begins at 0, and of one that does not.
func TestFetch(t *testing.T) {
	for _, begin := range []int64{0, 1, 3, 6} {
		p := ten(t, begin)
		for _, from := range []int64{math.MinInt64, -1 << 53, -2, -1, 0, 1, 2, 3, 4, 5, 6, 7, 8, 9, 10, 11, 12, 1 << 53, 1<<53 + 1, math.MaxInt64} {
			for _, most := range []int{0, 1, 2, 3, 9, 10, 11, math.MaxInt32, math.MaxInt} {
				want := api.Reply{Err: api.ErrRange}
				if from >= begin && from <= 10 {
					l := all10()[from:]
					want = api.Reply{Offset: 10, Records: l[:min(len(l), most)]}
				}
				wantFetched(t, "fetch", p.core, 0, fetch(0, from, most), want)
				p.want(t, "fetch")
			}
		}
	}
}

// P16.3: of an empty log only offset 0 is one at which to fetch.
func TestFetchEmpty(t *testing.T) {
	c := opened(t, fresh(t), usual)
	for _, from := range []int64{math.MinInt64, -1, 0, 1, math.MaxInt64} {
		want := api.Reply{Err: api.ErrRange}
		if from == 0 {
			want = api.Reply{}
		}
		wantFetched(t, "empty", c, 0, fetch(0, from, 5), want)
	}
}

// P16.3: each partition has records and a mark of its own.
func TestFetchParts(t *testing.T) {
	p := both(t, fresh(t), config(3, 2, 2, 2))
	for k := range 3 {
		wantProduced(t, "produce", p.core, 0, produce(k, some(k+1, k)...), 0)
	}
	for k := range 3 {
		wantFetched(t, "fetch", p.core, 1, fetch(k, 0, 9), api.Reply{Offset: int64(k + 1), Records: some(k+1, k)})
		wantFetched(t, "at the mark", p.core, 1, fetch(k, int64(k+1), 9), api.Reply{Offset: int64(k + 1)})
		wantFetched(t, "above it", p.core, 1, fetch(k, int64(k+2), 9), api.Reply{Err: api.ErrRange})
	}
}

// P16.3: a reply is returned once; the client is idle then, and may call anew.
func TestReturnOnce(t *testing.T) {
	p := both(t, fresh(t), usual)
	for n := range int64(3) {
		p.call(t, 0, produce(0, one()))
		for range 5 {
			if _, _, e := p.step(t, 0); e != api.ErrWait {
				t.Errorf("ahead of the answer: %v", e)
			}
			p.step(t, 2)
		}
		if r, returned, e := p.step(t, 0); r.Offset != n || !returned || e != api.OK {
			t.Errorf("%v %v %v", r, returned, e)
		}
		if _, _, e := p.step(t, 0); e != api.ErrWait {
			t.Errorf("behind the return: %v", e)
		}
		p.call(t, 0, fetch(0, n, 1))
		if r, returned, e := p.step(t, 0); r.Offset != n+1 || len(r.Records) != 1 || !returned || e != api.OK {
			t.Errorf("%v %v %v", r, returned, e)
		}
		if _, _, e := p.step(t, 0); e != api.ErrWait {
			t.Errorf("behind the return: %v", e)
		}
	}
}

// P16.3: whoever is answered may take its reply in any order, and late: what comes meanwhile changes none.
func TestReturnLate(t *testing.T) {
	p := both(t, fresh(t), config(1, 5, 5, 5))
	for i := range 4 {
		p.call(t, i, produce(0, some(i+1, i)...))
	}
	for range 5 {
		p.step(t, 5)
	}
	wantProduced(t, "meanwhile", p.core, 4, produce(0, one()), 10)
	wantBegun(t, "looks", p.core, 4, fetch(0, 0, 3))
	for _, i := range []int{2, 0, 3, 1} {
		wantReturn(t, "late", p.core, i, api.Reply{Offset: int64(i * (i + 1) / 2)})
	}
	wantReturn(t, "looks", p.core, 4, api.Reply{Offset: 11, Records: append(some(1, 0), some(2, 1)...)})
}

// P16.3: many clients look at a time, each with its own mark, offset and Most.
func TestFetchMany(t *testing.T) {
	p := both(t, fresh(t), config(1, 8, 2, 2))
	for i := range 7 {
		wantBegun(t, "looks", p.core, i, fetch(0, int64(i/2), i))
		wantProduced(t, "meanwhile", p.core, 7, produce(0, some(1, i)...), int64(i))
	}
	for i := 6; i >= 0; i-- {
		var l []api.Record
		for n := i / 2; n < i && len(l) < i; n++ {
			l = append(l, some(1, n)...)
		}
		wantReturn(t, "looked", p.core, i, api.Reply{Offset: int64(i), Records: l})
	}
}
