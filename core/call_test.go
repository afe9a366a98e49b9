package core_test

import (
	"math"
	"testing"

	"millrace/api"
)

// badCalls may not be, whatever else they are.
func badCalls() []api.Call {
	var l []api.Call
	for _, kind := range []api.CallKind{math.MinInt, -1, 0, 3, 4, math.MaxInt} {
		l = append(l, api.Call{Kind: kind}, api.Call{Kind: kind, Records: some(1, 1)}, api.Call{Kind: kind, Part: 9, Most: 1})
	}
	for _, n := range far() {
		if n != 0 {
			l = append(l, api.Call{Kind: api.CallProduce, Records: some(1, 1), Offset: int64(n)}, api.Call{Kind: api.CallProduce, Records: some(1, 1), Most: n})
			l = append(l, api.Call{Kind: api.CallProduce, Part: -1, Most: n})
		}
		if n < 0 {
			l = append(l, fetch(0, 0, n), fetch(99, 0, n), fetch(0, -1, n))
		}
	}
	return append(l,
		api.Call{Kind: api.CallFetch, Records: some(1, 1)},
		api.Call{Kind: api.CallFetch, Part: 7, Records: []api.Record{{}}, Most: 1},
		api.Call{Kind: api.CallFetch, Records: some(300, 1)},
	)
}

// P16.2: the chapter's examples.
func TestCallExamples(t *testing.T) {
	c := opened(t, fresh(t), usual)
	wantBegun(t, "first", c, 0, produce(0, one()))
	wantCallError(t, "again", c, 0, produce(0, one()), api.ErrBusy)
	wantCan(t, "first", c, "..y")
	wantBegun(t, "second", c, 1, produce(0, one(), one()))
	for i, flush := range []api.FlushState{api.FlushWrites, api.FlushSyncs, api.FlushRaises, api.FlushAnswers} {
		wantSteps(t, "flush", c, 2, 1)
		wantPart(t, "flush", c, 0, flush, 0, 2, int64(3*(i/3)))
	}
	wantSteps(t, "flush", c, 2, 1)
	wantPart(t, "flush", c, 0, api.FlushIdle, 0, 0, 3)
	wantReturn(t, "second", c, 1, api.Reply{Offset: 1})
	wantReturn(t, "first", c, 0, api.Reply{Offset: 0})
	wantBegun(t, "fetch", c, 0, fetch(0, 1, 9))
	wantClients(t, "fetch", c, api.ClientLooks, api.ClientIdle)
	wantReturn(t, "fetch", c, 0, api.Reply{Offset: 3, Records: []api.Record{one(), one()}})
	wantFetched(t, "above", c, 0, fetch(0, 4, 9), api.Reply{Err: api.ErrRange})
	wantRefused(t, "no partition", c, 0, produce(1, one()), api.ErrPart)
}

// P16.2: a client that is not there, and calls that may not be; ahead of that the client is busy.
func TestCallWrong(t *testing.T) {
	p := both(t, fresh(t), usual)
	check := func(what string) {
		t.Helper()
		for _, client := range far() {
			if client < 0 || client > 1 {
				wantCallError(t, what+": no client", p.core, client, produce(0, one()), api.ErrArg)
				wantCallError(t, what+": no client", p.core, client, fetch(0, 0, 1), api.ErrArg)
				wantCallError(t, what+": no client", p.core, client, produce(7), api.ErrArg)
			}
		}
		for _, x := range badCalls() {
			wantCallError(t, what, p.core, 0, x, api.ErrArg)
			wantCallError(t, what, p.core, 1, x, api.ErrArg)
			wantCallError(t, what, p.core, 2, x, api.ErrArg)
		}
		p.want(t, what)
	}
	check("idle")
	p.call(t, 0, produce(0, one()))
	check("one waits")
	p.call(t, 1, fetch(0, 0, 1))
	check("one looks")
	for range 5 {
		p.step(t, 2)
	}
	check("one is answered")
}

// P16.2: a client that is not idle is busy, in each of its states, whatever its call, also one that would be refused.
func TestCallBusy(t *testing.T) {
	p := both(t, fresh(t), usual)
	check := func(state api.ClientState) {
		t.Helper()
		wantClients(t, "busy", p.core, state)
		for _, x := range []api.Call{produce(0, one()), produce(9, one()), produce(0), fetch(0, 0, 1), fetch(-1, 0, 0)} {
			if _, _, e := p.call(t, 0, x); e != api.ErrBusy {
				t.Errorf("%v: %v", state, e)
			}
		}
	}
	p.call(t, 0, produce(0, one()))
	for range 5 {
		check(api.ClientWaits)
		p.step(t, 2)
	}
	check(api.ClientAnswered)
	p.step(t, 0)
	p.call(t, 0, fetch(0, 0, 1))
	check(api.ClientLooks)
	p.step(t, 0)
	p.feed(t, fail(0))
	p.call(t, 0, produce(0, one()))
	p.step(t, 2)
	p.step(t, 2)
	check(api.ClientAnswered)
	p.step(t, 0)
	if _, returned, e := p.call(t, 0, produce(0, one())); !returned || e != api.OK {
		t.Errorf("idle again: %v %v", returned, e)
	}
}

// P16.2: what returns at once leaves the client idle, and all else as it was.
func TestCallRefused(t *testing.T) {
	tooMany, tooMuch := some(257, 1), ofSize(65537)
	for _, row := range []struct {
		what string
		call api.Call
		why  api.Errno
	}{
		{"no partition", produce(1, one()), api.ErrPart},
		{"no partition below", produce(-1, one()), api.ErrPart},
		{"no partition, no records", produce(math.MaxInt), api.ErrPart},
		{"no partition, too many records", produce(math.MinInt, tooMany...), api.ErrPart},
		{"no partition to fetch", fetch(1, 0, 1), api.ErrPart},
		{"no partition to fetch, no offset", fetch(-1, -1, 0), api.ErrPart},
		{"no records", produce(0), api.ErrLarge},
		{"an empty list", api.Call{Kind: api.CallProduce, Records: []api.Record{}}, api.ErrLarge},
		{"too many records", produce(0, tooMany...), api.ErrLarge},
		{"far too many records", produce(0, some(5000, 1)...), api.ErrLarge},
		{"too many bytes", produce(0, tooMuch...), api.ErrLarge},
		{"a time below 0", produce(0, api.Record{Time: -1}), api.ErrLarge},
		{"a time above", produce(0, one(), api.Record{Time: 1<<53 + 1}), api.ErrLarge},
		{"a key too long", produce(0, api.Record{Key: make([]byte, 257)}), api.ErrLarge},
		{"a value too long", produce(0, api.Record{Value: make([]byte, 4097)}), api.ErrLarge},
		{"one of too many may not be", produce(0, append(some(257, 1), api.Record{Time: -1})...), api.ErrLarge},
	} {
		p := both(t, fresh(t), usual)
		for range 3 {
			reply, returned, e := p.call(t, 0, row.call)
			if reply.Err != row.why || !returned || e != api.OK {
				t.Errorf("%s: %v %v %v", row.what, reply, returned, e)
			}
		}
		wantProduced(t, row.what, p.core, 0, produce(0, one()), 0)
	}
}

// P16.2: what goes at the bounds.
func TestCallBounds(t *testing.T) {
	c := opened(t, fresh(t), usual)
	at := int64(0)
	for _, l := range [][]api.Record{
		some(256, 1),
		ofSize(65536),
		{{}},
		{{Time: 1 << 53, Key: make([]byte, 256), Value: make([]byte, 4096)}},
	} {
		wantProduced(t, "bounds", c, 0, produce(0, l...), at)
		at += int64(len(l))
		wantFetched(t, "bounds", c, 1, fetch(0, at-int64(len(l)), len(l)), api.Reply{Offset: at, Records: l})
	}
	wantFetched(t, "a record without bytes is one", c, 0, fetch(0, at-2, 1), api.Reply{Offset: at, Records: []api.Record{{}}})
}

// P16.2: the queue holds just so many calls; those that are taken are not in it.
func TestCallFull(t *testing.T) {
	for _, queue := range []int{1, 2, 5} {
		for _, take := range []int{1, 3, 256} {
			p := both(t, fresh(t), config(1, 20, queue, take))
			next := 0
			fill := func() {
				t.Helper()
				for len(p.plain.parts[0].queue) < queue {
					if _, returned, _ := p.call(t, next, produce(0, some(1, next)...)); returned {
						t.Fatalf("queue %d: full at %d", queue, len(p.plain.parts[0].queue))
					}
					next++
				}
				for range 2 {
					if reply, returned, _ := p.call(t, next, produce(0, one())); !returned || reply.Err != api.ErrFull {
						t.Errorf("queue %d: %v %v", queue, reply, returned)
					}
				}
				p.call(t, 19, fetch(0, 0, 9)) // a full queue is none of a Fetch's business
				p.step(t, 19)
			}
			fill()
			p.step(t, 20)
			fill()
			for range 4 {
				p.step(t, 20)
			}
			if reply, returned, _ := p.call(t, next, produce(0, one())); !returned || reply.Err != api.ErrFull {
				t.Errorf("queue %d: answered calls make no room: %v %v", queue, reply, returned)
			}
			p.step(t, 20)
			fill()
		}
	}
}

// P16.2: a queue that holds as many calls as may be is full behind all clients.
func TestCallFullMost(t *testing.T) {
	c := opened(t, fresh(t), config(1, 64, 63, 256))
	for i := range 63 {
		wantBegun(t, "fill", c, i, produce(0, some(1, i)...))
	}
	wantRefused(t, "full", c, 63, produce(0, one()), api.ErrFull)
	wantSteps(t, "flush", c, 64, 5)
	for i := range 63 {
		wantReturn(t, "fill", c, i, api.Reply{Offset: int64(i)})
	}
}

// P16.2: of several refusals the first one: ErrPart, ErrLarge, ErrDead, ErrFull.
func TestCallOrder(t *testing.T) {
	c := opened(t, fresh(t), config(2, 4, 1, 1))
	full := func(what string, why api.Errno) {
		t.Helper()
		wantRefused(t, what, c, 3, produce(2), api.ErrPart)
		wantRefused(t, what, c, 3, produce(0), api.ErrLarge)
		wantRefused(t, what, c, 3, produce(0, api.Record{Time: -1}), api.ErrLarge)
		wantRefused(t, what, c, 3, produce(0, some(257, 1)...), api.ErrLarge)
		wantRefused(t, what, c, 3, produce(0, one()), why)
	}
	wantBegun(t, "fill", c, 0, produce(0, one()))
	full("full", api.ErrFull)

	d := fresh(t)
	c = opened(t, d, config(2, 4, 1, 1))
	oks(t, d.Feed(fail(0)))
	wantBegun(t, "taken", c, 0, produce(0, one()))
	wantSteps(t, "taken", c, 4, 1)
	wantBegun(t, "queued", c, 1, produce(0, one()))
	full("full", api.ErrFull)
	wantSteps(t, "it dies", c, 4, 1)
	full("dead", api.ErrDead)
	wantProduced(t, "the other one", c, 3, produce(1, one()), 0)
}

// P16.2: a Fetch sees the mark when it is called, not when it goes on.
func TestCallSees(t *testing.T) {
	c := opened(t, fresh(t), usual)
	wantBegun(t, "produce", c, 0, produce(0, some(3, 1)...))
	for n := range 6 {
		seen := api.Reply{}
		if n >= 4 {
			seen = api.Reply{Offset: 3, Records: some(3, 1)}
		}
		wantFetched(t, "between the steps", c, 1, fetch(0, 0, 9), seen)
		if n < 5 {
			wantSteps(t, "flush", c, 2, 1)
		}
	}
	wantReturn(t, "produce", c, 0, api.Reply{})

	wantBegun(t, "ahead", c, 1, fetch(0, 2, 9))
	wantProduced(t, "produce", c, 0, produce(0, some(2, 2)...), 3)
	wantReturn(t, "ahead", c, 1, api.Reply{Offset: 3, Records: some(3, 1)[2:]})
	wantBegun(t, "ahead", c, 1, fetch(0, 6, 9))
	wantProduced(t, "produce", c, 0, produce(0, some(2, 3)...), 5)
	wantReturn(t, "the offset was above the mark that it saw", c, 1, api.Reply{Err: api.ErrRange})
}
