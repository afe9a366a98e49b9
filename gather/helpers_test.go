package gather_test

import (
	"bytes"
	"math"
	"math/rand"
	"slices"
	"testing"

	"millrace/api"
	"millrace/gather"
	"millrace/ring"
)

type list = []api.Record

// of is a list of n records that differ by Time from first on.
func of(n int, first int64) list {
	l := make(list, n)
	for i := range l {
		l[i] = api.Record{Time: first + int64(i), Key: []byte{byte(i)}, Value: []byte("v")}
	}
	return l
}

// bare is a list of n records without Key and Value.
func bare(n int) list { return make(list, n) }

// weighing is a list of records whose bytes are n in all: as few as may be.
func weighing(n int) list {
	const most = 12 + api.MaxKey + api.MaxValue
	var l list
	for ; n > most+12; n -= most {
		l = append(l, sized(most))
	}
	if n > most { // what is left behind most would be too few for a record
		l = append(l, sized(12))
		n -= 12
	}
	return append(l, sized(n))
}

// sized is a record that may be and has n bytes.
func sized(n int) api.Record {
	value := min(n-12, api.MaxValue)
	return api.Record{Time: 3, Key: bytes.Repeat([]byte{'k'}, n-12-value), Value: bytes.Repeat([]byte{'v'}, value)}
}

func times(n int, l list) []list { return slices.Repeat([]list{l}, n) }

// with is l with x at place i instead of what stands there.
func with(l []list, i int, x list) []list {
	out := slices.Clone(l)
	out[i] = x
	return out
}

// refused are lists that may not be, each with what record.Fits answers.
func refused() map[string]struct {
	l list
	e api.Errno
} {
	return map[string]struct {
		l list
		e api.Errno
	}{
		"nil":               {nil, api.ErrArg},
		"empty":             {list{}, api.ErrArg},
		"time below":        {list{{}, {Time: -1}}, api.ErrArg},
		"time past":         {list{{Time: api.MaxTime + 1}}, api.ErrArg},
		"key past":          {list{{Key: make([]byte, api.MaxKey+1)}, {}}, api.ErrArg},
		"value past":        {list{{Value: make([]byte, api.MaxValue+1)}}, api.ErrArg},
		"last of too many":  {append(bare(api.MaxRecords), api.Record{Time: math.MinInt64}), api.ErrArg},
		"one record more":   {bare(api.MaxRecords + 1), api.ErrLarge},
		"one byte more":     {weighing(api.MaxBatch - 20 + 1), api.ErrLarge},
		"far more records":  {bare(5000), api.ErrLarge},
		"records and bytes": {slices.Repeat(list{sized(4000)}, 300), api.ErrLarge},
	}
}

// same is the tests' own: it does not lean on what is tested.
func same(a, b list) bool {
	return slices.EqualFunc(a, b, func(x, y api.Record) bool {
		return x.Time == y.Time && string(x.Key) == string(y.Key) && string(x.Value) == string(y.Value)
	})
}

func sameCalls(a, b []api.Call) bool {
	return slices.EqualFunc(a, b, func(x, y api.Call) bool {
		return x.Kind == y.Kind && x.Part == y.Part && x.Offset == y.Offset && x.Most == y.Most && same(x.Records, y.Records)
	})
}

func sameBatches(a, b []batch) bool {
	return slices.EqualFunc(a, b, func(x, y batch) bool {
		return x.n == y.n && x.Base == y.Base && same(x.Records, y.Records)
	})
}

// batch is what Batches tells at a time.
type batch struct {
	n int
	api.Batch
}

// told goes over what Batches tells, and fails if it is refused.
func told(t *testing.T, take int, base int64, l ...list) []batch {
	t.Helper()
	all, e := gather.Batches(take, base, l...)
	if e != api.OK || all == nil {
		t.Fatalf("Batches(%d, %d, %d lists): %v", take, base, len(l), e)
	}
	var out []batch
	for n, b := range all {
		out = append(out, batch{n, b})
	}
	return out
}

// produces are calls of these lists, each with a partition of its own.
func produces(l ...list) []api.Call {
	out := make([]api.Call, len(l))
	for i, x := range l {
		out[i] = api.Call{Kind: api.CallProduce, Part: i + 1, Records: x}
	}
	return out
}

// queue is one with these calls in it, the first of which stands at that place of its room.
func queue(t *testing.T, bound, first int, calls ...api.Call) *ring.Ring[api.Call] {
	t.Helper()
	q, e := ring.New[api.Call](bound)
	for range first {
		q.Put(api.Call{})
		q.Take()
	}
	if e != api.OK || q.Put(calls...) != api.OK {
		t.Fatal("no such queue", bound, len(calls))
	}
	return q
}

// drawn are up to most lists, of all sizes from one record to a whole batch.
func drawn(r *rand.Rand, most int) []list {
	l := make([]list, r.Intn(most+1))
	for i := range l {
		switch r.Intn(4) {
		case 0:
			l[i] = of(1+r.Intn(3), r.Int63n(1000))
		case 1:
			l[i] = of(1+r.Intn(api.MaxRecords), r.Int63n(1000))
		case 2:
			l[i] = weighing(12 + r.Intn(api.MaxBatch-20-12+1))
		case 3:
			l[i] = weighing(12 + r.Intn(9000))
		}
	}
	return l
}
