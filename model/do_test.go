package model_test

import (
	"fmt"
	"math"
	"slices"
	"testing"

	"millrace/api"
)

// P17.1: New takes 1 to MaxParts.
func TestNew(t *testing.T) {
	for _, n := range far() {
		want := api.OK
		if n < 1 || n > 16 {
			want = api.ErrArg
		}
		wantNew(t, n, want)
	}
	for n := range 16 {
		wantNew(t, n+1, api.OK)
	}
}

// P17.1: the chapter's examples, one behind the other.
func TestExamples(t *testing.T) {
	m := empty(t, 2)
	wantDone(t, "two", m, produce(0, one(), one()), api.Reply{})
	wantDone(t, "one", m, produce(0, one()), api.Reply{Offset: 2})
	wantDone(t, "fetch", m, fetch(0, 1, 9), api.Reply{Offset: 3, Records: []api.Record{one(), one()}})
	wantRefused(t, "above", m, fetch(0, 4, 9), api.ErrRange)
	wantDone(t, "at the end", m, fetch(0, 3, 9), api.Reply{Offset: 3})
	wantRefused(t, "no partition", m, fetch(2, 0, 9), api.ErrPart)
	wantRefused(t, "no records", m, produce(1), api.ErrLarge)
	wantFits(t, "full", m, produce(0, one()), api.Reply{Err: api.ErrFull}, true)
	wantFits(t, "at the end", m, produce(0, one()), api.Reply{Offset: 3}, true)
	wantFits(t, "elsewhere", m, produce(0, one()), api.Reply{Offset: 2}, false)
	wantCut(t, "cut", m, 0, 1, api.OK)
	wantHolds(t, "behind", m, []api.Record{one()}, nil)
	wantNew(t, 0, api.ErrArg)
}

// P17.1: each partition has a list and offsets of its own.
func TestPartitionsApart(t *testing.T) {
	m := empty(t, 16)
	for k := range 16 {
		for i := range k {
			wantDone(t, "produce", m, produce(k, some(2, 16*k+i)...), api.Reply{Offset: int64(2 * i)})
		}
	}
	for k := range 16 {
		var want []api.Record
		for i := range k {
			want = append(want, some(2, 16*k+i)...)
		}
		wantDone(t, "fetch", m, fetch(k, 0, math.MaxInt), api.Reply{Offset: int64(2 * k), Records: want})
	}
}

// P17.1: a Produce is refused where layer 5's Fits does not take its records, at just those bounds, and with ErrLarge, whatever Fits says.
func TestProduceRefused(t *testing.T) {
	m := holding(t, some(2, 7), nil)
	for name, l := range map[string][]api.Record{
		"none":                {},
		"one too many":        some(257, 1),
		"a byte too many":     ofSize(65537),
		"far too many":        ofSize(200000),
		"a time below 0":      {one(), {Time: -1}},
		"a time above":        {{Time: 1<<53 + 1}, one()},
		"a key above":         {{Key: make([]byte, 257)}},
		"a value above":       {{Value: make([]byte, 4097)}},
		"too many, one wrong": append(some(257, 1), api.Record{Time: -1}),
		"a time far above":    {{Time: math.MaxInt64}},
		"a time far below":    {{Time: math.MinInt64}},
	} {
		for k := range 2 {
			wantRefused(t, name, m, produce(k, l...), api.ErrLarge)
		}
		for _, k := range []int{-1, 2, math.MinInt, math.MaxInt} {
			wantRefused(t, name+", no partition", m, produce(k, l...), api.ErrPart)
		}
	}
	wantRefused(t, "nil", m, api.Call{Kind: api.CallProduce}, api.ErrLarge)
	wantHolds(t, "behind", m, some(2, 7), nil)
}

// P17.1: at the bounds they go.
func TestProduceAtBounds(t *testing.T) {
	for name, l := range map[string][]api.Record{
		"one":           {one()},
		"an empty one":  {{}},
		"empty bytes":   {{Key: []byte{}, Value: []byte{}}},
		"most records":  some(256, 1),
		"most bytes":    ofSize(65536),
		"greatest time": {{Time: 1 << 53, Key: make([]byte, 256), Value: make([]byte, 4096)}},
	} {
		m := holding(t, nil, some(3, 5))
		wantDone(t, name, m, produce(1, l...), api.Reply{Offset: 3})
		wantHolds(t, name, m, nil, slices.Concat(some(3, 5), l))
	}
}

// P17.1: a Fetch tells the end, and the records from its Offset on, at most Most.
func TestFetch(t *testing.T) {
	l := some(5, 9)
	m := holding(t, nil, l)
	for from := range 6 {
		for _, most := range far() {
			if most < 0 {
				continue
			}
			want := l[from:min(5, from+min(most, 5))]
			wantDone(t, fmt.Sprint(from, most), m, fetch(1, int64(from), most), api.Reply{Offset: 5, Records: want})
		}
	}
	wantDone(t, "an empty one", m, fetch(0, 0, math.MaxInt), api.Reply{})
}

// P17.1: a Fetch is refused with ErrArg ahead of ErrPart, ErrPart ahead of ErrRange.
func TestFetchRefused(t *testing.T) {
	m := holding(t, some(5, 9), nil)
	for _, n := range far() {
		if n < 0 {
			wantRefused(t, "below 0", m, fetch(0, 0, n), api.ErrArg)
			wantRefused(t, "below 0, no partition", m, fetch(9, -1, n), api.ErrArg)
		}
		if n < 0 || n > 1 {
			wantRefused(t, "no partition", m, fetch(n, 0, 1), api.ErrPart)
			wantRefused(t, "no partition, no offset", m, fetch(n, -1, 0), api.ErrPart)
		}
		if n < 0 || n > 5 {
			wantRefused(t, "no offset", m, fetch(0, int64(n), 1), api.ErrRange)
		}
		if n < 0 || n > 0 {
			wantRefused(t, "no offset of an empty one", m, fetch(1, int64(n), 0), api.ErrRange)
		}
	}
}

// P17.1: another Kind is ErrArg, whatever else there is.
func TestOtherKind(t *testing.T) {
	m := holding(t, some(1, 1))
	for _, n := range far() {
		if n == 1 || n == 2 {
			continue
		}
		kind := api.CallKind(n)
		wantRefused(t, "zero else", m, api.Call{Kind: kind}, api.ErrArg)
		wantRefused(t, "like a Produce", m, api.Call{Kind: kind, Records: some(1, 1)}, api.ErrArg)
		wantRefused(t, "like a Fetch", m, api.Call{Kind: kind, Most: 1}, api.ErrArg)
		wantRefused(t, "all wrong", m, api.Call{Kind: kind, Part: -1, Offset: -1, Most: -1}, api.ErrArg)
	}
}

// P17.1: what a Kind's words do not speak of does not matter.
func TestFieldsBeside(t *testing.T) {
	m := holding(t, some(1, 1))
	x := produce(0, some(2, 2)...)
	x.Offset, x.Most = math.MinInt64, math.MinInt
	wantDone(t, "produce", m, x, api.Reply{Offset: 1})
	y := fetch(0, 1, 1)
	y.Records = some(300, 3)
	wantDone(t, "fetch", m, y, api.Reply{Offset: 3, Records: some(2, 2)[:1]})
	wantHolds(t, "behind", m, append(some(1, 1), some(2, 2)...))
}

// P17.1: no model answers ErrNil, ahead of all else.
func TestDoOfNone(t *testing.T) {
	for name, m := range nones() {
		for _, c := range []api.Call{produce(0, one()), produce(-1), fetch(0, 0, 1), fetch(0, 0, -1), fetch(9, 9, 9), {}, {Kind: 99}} {
			wantRefused(t, name, m, c, api.ErrNil)
		}
	}
}
