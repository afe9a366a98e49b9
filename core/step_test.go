package core_test

import (
	"testing"

	"millrace/api"
)

// P16.5: tasks that are not there, ahead of that a task can't go on.
func TestStepWrong(t *testing.T) {
	for _, c := range []api.CoreConfig{config(1, 1, 1, 1), usual, config(3, 5, 2, 2), config(16, 64, 1, 1)} {
		p := opened(t, fresh(t), c)
		check := func(what string, goes int) {
			t.Helper()
			for _, task := range far() {
				switch {
				case task < 0 || task >= c.Clients+c.Parts:
					wantStepError(t, what, p, task, api.ErrArg)
				case task != goes:
					wantStepError(t, what, p, task, api.ErrWait)
				}
			}
		}
		check("idle", -1)
		wantBegun(t, "produce", p, 0, produce(c.Parts-1, one()))
		for range 5 {
			check("flush", c.Clients+c.Parts-1)
			wantSteps(t, "flush", p, c.Clients+c.Parts-1, 1)
		}
		check("answered", 0)
		wantReturn(t, "answered", p, 0, api.Reply{})
		check("idle again", -1)
		wantBegun(t, "fetch", p, c.Clients-1, fetch(0, 0, 1))
		check("looks", c.Clients-1)
	}
}

// P16.5: a task that can't go on has no step: nothing has changed.
func TestStepWait(t *testing.T) {
	p := both(t, fresh(t), config(2, 3, 1, 1))
	wait := func(tasks ...int) {
		t.Helper()
		for _, task := range tasks {
			if _, returned, e := p.step(t, task); returned || e != api.ErrWait {
				t.Errorf("task %d: %v %v", task, returned, e)
			}
		}
	}
	wait(0, 1, 2, 3, 4)
	p.call(t, 1, produce(1, one()))
	wait(0, 1, 2, 3)
	p.step(t, 4)
	p.call(t, 2, fetch(0, 0, 0))
	wait(0, 1, 3)
	p.feed(t, fail(0))
	p.step(t, 4)
	wait(0, 3, 4)
	p.step(t, 1)
	wait(0, 1, 3, 4)
}

// P16.5: which tasks can go on: clients by their numbers, then flushers by theirs.
func TestCan(t *testing.T) {
	p := both(t, fresh(t), config(3, 4, 2, 1))
	wantCan(t, "idle", p.core, ".......")
	p.call(t, 3, fetch(1, 0, 0))
	wantCan(t, "one looks", p.core, "...y...")
	p.call(t, 0, produce(2, one()))
	wantCan(t, "one waits", p.core, "...y..y")
	p.call(t, 1, produce(2, one()))
	p.call(t, 2, produce(0, one()))
	wantCan(t, "three wait", p.core, "...yy.y")
	for range 5 {
		p.step(t, 6)
	}
	wantCan(t, "one is answered, one is queued", p.core, "y..yy.y")
	p.step(t, 3)
	p.step(t, 0)
	wantCan(t, "two are idle", p.core, "....y.y")
	for range 5 {
		p.step(t, 6)
	}
	wantCan(t, "none is queued", p.core, ".y..y..")
	p.feed(t, fail(0))
	p.step(t, 4)
	p.step(t, 4)
	wantCan(t, "one is dead", p.core, ".yy....")
}

// P16.5: clients and partitions that are not there.
func TestNumbersWrong(t *testing.T) {
	c := opened(t, fresh(t), config(3, 5, 2, 2))
	for k := range 3 {
		wantProduced(t, "produce", c, 0, produce(k, one()), 0)
	}
	for _, n := range far() {
		if s, e := c.Client(n); (e == api.OK) != (n >= 0 && n < 5) || e != api.OK && (e != api.ErrArg || s != 0) {
			t.Errorf("Client(%d): %v %v", n, s, e)
		}
		if p, e := c.Part(n); (e == api.OK) != (n >= 0 && n < 3) || e != api.OK && (e != api.ErrPart || p != (api.PartState{})) {
			t.Errorf("Part(%d): %v %v", n, p, e)
		}
		if l, begin, e := c.Records(n); (e == api.OK) != (n >= 0 && n < 3) || e != api.OK && (e != api.ErrPart || l != nil || begin != 0) {
			t.Errorf("Records(%d): %v %d %v", n, l, begin, e)
		}
	}
}

// P16.5: no core.
func TestNone(t *testing.T) {
	for what, c := range nones(t) {
		for _, n := range far() {
			for _, x := range []api.Call{{}, produce(0, one()), produce(-1), fetch(0, 0, 1), fetch(0, 0, -1)} {
				wantCallError(t, what, c, n, x, api.ErrNil)
			}
			wantStepError(t, what, c, n, api.ErrNil)
			if s, e := c.Client(n); s != 0 || e != api.ErrNil {
				t.Errorf("%s: Client: %v %v", what, s, e)
			}
			if p, e := c.Part(n); p != (api.PartState{}) || e != api.ErrNil {
				t.Errorf("%s: Part: %v %v", what, p, e)
			}
			if l, begin, e := c.Records(n); l != nil || begin != 0 || e != api.ErrNil {
				t.Errorf("%s: Records: %v %d %v", what, l, begin, e)
			}
		}
		if l := c.Can(); len(l) != 0 {
			t.Errorf("%s: Can: %v", what, l)
		}
		if n := c.Counts(); n != (api.CoreCounts{}) {
			t.Errorf("%s: Counts: %v", what, n)
		}
		if x := c.Config(); x != (api.CoreConfig{}) {
			t.Errorf("%s: Config: %v", what, x)
		}
	}
}

// P16.5: Records tells below the mark alone, of many records, too.
func TestRecords(t *testing.T) {
	p := both(t, fresh(t), usual)
	var all []api.Record
	for n := range 5 {
		l := some(200, n)
		p.call(t, 0, produce(0, l...))
		for range 4 {
			wantRecords(t, "ahead of the raise", p.core, 0, 0, all...)
			p.step(t, 2)
		}
		all = append(all, l...)
		wantRecords(t, "behind it", p.core, 0, 0, all...)
		p.step(t, 2)
		p.step(t, 0)
	}
	wantFetched(t, "all", p.core, 0, fetch(0, 0, 1000), api.Reply{Offset: 1000, Records: all})
}

// P16.5: Counts adds up all partitions; what was refused is in none of its numbers.
func TestCounts(t *testing.T) {
	p := both(t, fresh(t), config(3, 6, 2, 2))
	for i := range 6 {
		p.call(t, i, produce(i%3, one()))
	}
	p.step(t, 6)
	p.step(t, 7)
	p.step(t, 8)
	wantCounts(t, "taken", p.core, 0, 0, 6)
	p.step(t, 6)
	p.step(t, 7)
	wantCounts(t, "appended", p.core, 2, 0, 6)
	p.step(t, 6)
	wantCounts(t, "synced", p.core, 2, 1, 6)
	p.feed(t, fail(0), fail(0))
	p.step(t, 7)
	p.step(t, 8)
	wantCounts(t, "failed", p.core, 2, 1, 6)
	p.step(t, 1)
	for _, x := range []api.Call{produce(0), produce(1, one()), produce(3, one()), {}} {
		p.core.Call(1, x)
		wantCounts(t, "refused", p.core, 2, 1, 6)
	}
}
