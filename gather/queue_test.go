package gather_test

import (
	"math"
	"math/rand"
	"slices"
	"testing"

	"millrace/api"
	"millrace/gather"
	"millrace/ring"
)

// wantTaken asks Look and Take for the first n calls of a queue, and holds the queue to what is left then.
func wantTaken(t *testing.T, what string, q *ring.Ring[api.Call], take, n int) {
	t.Helper()
	calls := q.List()
	for range 2 {
		if got, e := gather.Look(q, take); got != n || e != api.OK {
			t.Errorf("%s: Look(%d) of %d: %d %v, want %d", what, take, len(calls), got, e, n)
		}
		if !sameCalls(q.List(), calls) {
			t.Errorf("%s: Look(%d) took", what, take)
		}
	}
	var records list
	for _, c := range calls[:n] {
		records = append(records, c.Records...)
	}
	bound := q.Bound()
	got, r, e := gather.Take(q, take)
	if !sameCalls(got, calls[:n]) || !same(r, records) || e != api.OK {
		t.Errorf("%s: Take(%d) of %d: %d calls, %d records, %v, want %d, %d", what, take, len(calls), len(got), len(r), e, n, len(records))
	}
	if !sameCalls(q.List(), calls[n:]) || q.Bound() != bound || q.Len() != len(calls)-n {
		t.Errorf("%s: Take(%d) of %d left %d", what, take, len(calls), q.Len())
	}
}

// wantLeft asks Look and Take for an error, nothing beside it, and the queue as it was.
func wantLeft(t *testing.T, what string, q *ring.Ring[api.Call], take int, want api.Errno) {
	t.Helper()
	calls, bound := q.List(), q.Bound()
	if n, e := gather.Look(q, take); n != 0 || e != want {
		t.Errorf("%s: Look(%d): %d %v, want %v", what, take, n, e, want)
	}
	if c, r, e := gather.Take(q, take); c != nil || r != nil || e != want {
		t.Errorf("%s: Take(%d): %d calls, %d records, %v, want %v", what, take, len(c), len(r), e, want)
	}
	if !sameCalls(q.List(), calls) || q.Bound() != bound {
		t.Errorf("%s: Take(%d) left %d of %d", what, take, q.Len(), len(calls))
	}
}

// P6.3: of lists of 100 records two go into one batch.
func TestTake(t *testing.T) {
	for first := range 4 {
		q := queue(t, 4, first, produces(of(100, 0), of(100, 500), of(100, 9))...)
		wantTaken(t, "three", q, 9, 2)
		wantTaken(t, "one left", q, 9, 1)
		wantTaken(t, "none left", q, 9, 0)
		if e := q.Put(produces(of(1, 3), of(2, 3), of(3, 3), of(4, 3))...); e != api.OK {
			t.Fatal(e)
		}
		wantTaken(t, "filled again", q, 3, 3)
	}
}

// P6.3: a call is answered as it was put in, all of its fields.
func TestTakeFields(t *testing.T) {
	c := api.Call{Kind: api.CallProduce, Part: -3, Records: of(2, 7), Offset: 11, Most: -5}
	got, r, e := gather.Take(queue(t, 1, 0, c), 1)
	if e != api.OK || len(got) != 1 || got[0].Kind != api.CallProduce || got[0].Part != -3 || got[0].Offset != 11 || got[0].Most != -5 {
		t.Fatal(got, e)
	}
	if !same(got[0].Records, of(2, 7)) || !same(r, of(2, 7)) {
		t.Error(got, r)
	}
}

// P6.3: no queue, whatever take is: nil, refused, zero.
func TestNoQueue(t *testing.T) {
	few, _ := ring.New[api.Call](0)
	many, _ := ring.New[api.Call](api.MaxQueue + 1)
	for what, q := range map[string]*ring.Ring[api.Call]{"nil": nil, "bound 0": few, "bound past": many, "zero": {}} {
		for _, take := range []int{math.MinInt, -1, 0, 1, 2, math.MaxInt} {
			wantLeft(t, what, q, take, api.ErrNil)
		}
	}
}

// P6.3: of an empty one 0 and none, from whatever first place on; a take that may not be is told all the same.
func TestEmptyQueue(t *testing.T) {
	for _, bound := range []int{1, 2, api.MaxQueue} {
		for _, first := range []int{0, bound - 1, bound} {
			q := queue(t, bound, first)
			for _, take := range []int{1, 2, api.MaxQueue, math.MaxInt} {
				wantTaken(t, "empty", q, take, 0)
			}
			for _, take := range []int{0, -1, math.MinInt} {
				wantLeft(t, "empty", q, take, api.ErrArg)
			}
		}
	}
}

// P6.3: a take of 0, of 1, of as many as there are, of more; from each first place on, full or not.
func TestTakeNumbers(t *testing.T) {
	for _, bound := range []int{1, 2, 3, 5} {
		for first := range bound {
			for in := range bound + 1 {
				calls := produces(of(1, 10), of(2, 20), of(3, 30), of(1, 40), of(7, 50))[:in]
				for take := 1; take <= in+2; take++ {
					wantTaken(t, "numbers", queue(t, bound, first, calls...), take, min(take, in))
				}
				for _, take := range []int{api.MaxQueue + 1, math.MaxInt} {
					wantTaken(t, "all", queue(t, bound, first, calls...), take, in)
				}
				for _, take := range []int{0, -1, math.MinInt} {
					wantLeft(t, "no take", queue(t, bound, first, calls...), take, api.ErrArg)
				}
			}
		}
	}
}

// P6.3: the greatest queue, full, its places going round.
func TestGreatestQueue(t *testing.T) {
	lists := make([]list, api.MaxQueue)
	for i := range lists {
		lists[i] = of(1, int64(i))
	}
	for _, first := range []int{0, 1, 100, api.MaxQueue - 1} {
		wantTaken(t, "all", queue(t, api.MaxQueue, first, produces(lists...)...), math.MaxInt, api.MaxQueue)
		q := queue(t, api.MaxQueue, first, produces(lists...)...)
		wantTaken(t, "most", q, api.MaxQueue-1, api.MaxQueue-1)
		wantTaken(t, "the last one", q, api.MaxQueue-1, 1)
		lists[0] = of(2, 0)
		wantTaken(t, "one record more", queue(t, api.MaxQueue, first, produces(lists...)...), math.MaxInt, api.MaxQueue-1)
		lists[0] = of(1, 0)
	}
}

// P6.3: by bytes, just and just not.
func TestTakeBytes(t *testing.T) {
	wantTaken(t, "just", queue(t, 3, 2, produces(weighing(65000), weighing(516), of(1, 0))...), 3, 2)
	wantTaken(t, "just not", queue(t, 3, 2, produces(weighing(65000), weighing(517), of(1, 0))...), 3, 1)
	wantTaken(t, "alone", queue(t, 3, 2, produces(weighing(65516), of(1, 0))...), 3, 1)
}

// P6.3: a call that is no Produce, at each place, leaves the queue as it is, though it would not have been taken.
func TestNoProduce(t *testing.T) {
	calls := produces(of(200, 1), of(100, 2), of(1, 3))
	for _, kind := range []api.CallKind{api.CallFetch, 0, -1, 3, math.MinInt, math.MaxInt} {
		for place := range calls {
			for _, records := range []list{nil, of(1, 9)} {
				other := slices.Clone(calls)
				other[place] = api.Call{Kind: kind, Part: 1, Records: records, Most: 4}
				for first := range 3 {
					wantLeft(t, "no Produce", queue(t, 3, first, other...), 1, api.ErrArg)
				}
				wantLeft(t, "no Produce", queue(t, 9, 7, other...), 9, api.ErrArg)
			}
		}
	}
	wantLeft(t, "zero call", queue(t, 1, 0, api.Call{}), 1, api.ErrArg)
}

// P6.3: a call whose records may not be, or are too large, at each place, likewise.
func TestRefusedCall(t *testing.T) {
	lists := []list{of(200, 1), of(100, 2), of(1, 3)}
	for what, x := range refused() {
		for place := range lists {
			for _, take := range []int{1, 2, 9} {
				wantLeft(t, what, queue(t, 4, place+1, produces(with(lists, place, x.l)...)...), take, x.e)
			}
			wantLeft(t, what, queue(t, 4, 3, produces(with(lists, place, x.l)...)...), 0, api.ErrArg)
		}
	}
}

// P6.3: of several errors the one that the chapter names first.
func TestQueueErrorOrder(t *testing.T) {
	large, none := bare(api.MaxRecords+1), list{}
	fetch := api.Call{Kind: api.CallFetch, Records: of(1, 1)}
	wantLeft(t, "large, none", queue(t, 2, 1, produces(large, none)...), 2, api.ErrArg)
	wantLeft(t, "none, large", queue(t, 2, 1, produces(none, large)...), 2, api.ErrArg)
	wantLeft(t, "large, Fetch", queue(t, 2, 1, produces(large)[0], fetch), 2, api.ErrArg)
	wantLeft(t, "Fetch, large", queue(t, 2, 1, fetch, produces(large)[0]), 2, api.ErrArg)
	wantLeft(t, "large, no take", queue(t, 2, 1, produces(large)...), 0, api.ErrArg)
	wantLeft(t, "large Fetch", queue(t, 2, 1, api.Call{Kind: api.CallFetch, Records: large}), 2, api.ErrArg)
}

// P6.3: what is refused at one time goes when what is wrong is out of the queue.
func TestGoesOn(t *testing.T) {
	q := queue(t, 3, 2, api.Call{Kind: api.CallFetch}, produces(of(3, 3))[0], produces(of(4, 4))[0])
	wantLeft(t, "Fetch ahead", q, 3, api.ErrArg)
	q.Take()
	wantTaken(t, "behind it", q, 3, 2)
}

// P6.3, P0.6: drawn queues: each flush takes one at least, and all that is queued, up to what goes into one batch.
func TestDrawnQueues(t *testing.T) {
	r := rand.New(rand.NewSource(63))
	for range 300 {
		lists := drawn(r, 9)
		take := 1 + r.Intn(10)
		q := queue(t, 9, r.Intn(9), produces(lists...)...)
		for len(lists) > 0 {
			n := most(take, lists)
			if n < 1 {
				t.Fatal("none taken")
			}
			wantTaken(t, "drawn", q, take, n)
			lists = lists[n:]
		}
		wantTaken(t, "drawn, empty", q, take, 0)
	}
}
