package core_test

import (
	"testing"

	"millrace/api"
	"millrace/record"
)

// P16.4: five steps, one behind the other, and what each of them does, also on the disk.
func TestFlushSteps(t *testing.T) {
	d := fresh(t)
	c := opened(t, d, usual)
	wantBegun(t, "produce", c, 0, produce(0, some(3, 1)...))
	for i, want := range []struct {
		flush        api.FlushState
		taken, steps int
		lasts        int
		log          api.LogState
		mark         int64
		client       api.ClientState
		counts       api.CoreCounts
	}{
		{api.FlushIdle, 0, 2, 0, api.LogState{Segments: 1}, 0, api.ClientWaits, api.CoreCounts{}},
		{api.FlushWrites, 1, 2, 0, api.LogState{Segments: 1}, 0, api.ClientWaits, api.CoreCounts{Taken: 1}},
		{api.FlushSyncs, 1, 3, 0, api.LogState{Segments: 1, End: 3}, 0, api.ClientWaits, api.CoreCounts{Taken: 1, Batches: 1}},
		{api.FlushRaises, 1, 4, 62, api.LogState{Segments: 1, End: 3, Stands: 3}, 0, api.ClientWaits, api.CoreCounts{Taken: 1, Batches: 1, Syncs: 1}},
		{api.FlushAnswers, 1, 4, 62, api.LogState{Segments: 1, End: 3, Stands: 3}, 3, api.ClientWaits, api.CoreCounts{Taken: 1, Batches: 1, Syncs: 1}},
		{api.FlushIdle, 0, 4, 62, api.LogState{Segments: 1, End: 3, Stands: 3}, 3, api.ClientAnswered, api.CoreCounts{Taken: 1, Batches: 1, Syncs: 1}},
	} {
		if i > 0 {
			wantSteps(t, "flush", c, 2, 1)
		}
		queued := 0
		if i == 0 {
			queued = 1
		}
		if p, e := c.Part(0); p != (api.PartState{Flush: want.flush, Queued: queued, Taken: want.taken, Mark: want.mark, Log: want.log}) || e != api.OK {
			t.Errorf("%d: %v %v, want %v", i, p, e, want)
		}
		wantClients(t, "flush", c, want.client, api.ClientIdle)
		if n := c.Counts(); n != want.counts {
			t.Errorf("%d: %v, want %v", i, n, want.counts)
		}
		steps, _ := d.Steps()
		if f, e := d.File("pa-00000000000000"); f.Lasts != want.lasts || steps != want.steps || e != api.OK {
			t.Errorf("%d: %v %v, %d steps", i, f, e, steps)
		}
	}
	wantStepError(t, "nothing is queued", c, 2, api.ErrWait)
}

// P16.4, the document's example 2: what waits when the flusher takes is one batch, in the order of the calls; what comes later is the next one.
func TestFlushTogether(t *testing.T) {
	d := fresh(t)
	c := opened(t, d, config(1, 5, 5, 5))
	for i, client := range []int{3, 0, 4} {
		wantBegun(t, "produce", c, client, produce(0, some(i+1, client)...))
	}
	wantSteps(t, "take", c, 5, 1)
	wantBegun(t, "later", c, 1, produce(0, some(2, 1)...))
	wantBegun(t, "later", c, 2, produce(0, some(2, 2)...))
	wantPart(t, "taken", c, 0, api.FlushWrites, 2, 3, 0)
	wantSteps(t, "flush", c, 5, 4)
	wantClients(t, "flushed", c, api.ClientAnswered, api.ClientWaits, api.ClientWaits, api.ClientAnswered, api.ClientAnswered)
	for i, client := range []int{3, 0, 4} {
		wantReturn(t, "flushed", c, client, api.Reply{Offset: int64([]int{0, 1, 3}[i])})
	}
	wantSteps(t, "flush", c, 5, 5)
	wantReturn(t, "later", c, 2, api.Reply{Offset: 8})
	wantReturn(t, "later", c, 1, api.Reply{Offset: 6})
	wantCounts(t, "flushed", c, 2, 2, 5)
	b, e := d.Read("pa-00000000000000", 0, 9999)
	oks(t, e)
	s, e := record.Walk(b, 0)
	if s.Batches != 2 || s.Records != 10 || e != api.OK {
		t.Errorf("%v %v", s, e)
	}
}

// P16.4, P0.6: a flusher takes all that is queued, up to Take calls and to what goes into one batch.
func TestFlushTakes(t *testing.T) {
	of := func(sizes ...int) [][]api.Record {
		var l [][]api.Record
		for i, n := range sizes {
			l = append(l, some(n, i))
		}
		return l
	}
	half := ofSize(20 + 32758)
	for _, row := range []struct {
		what  string
		take  int
		lists [][]api.Record
		want  []int
	}{
		{"one", 9, of(1), []int{1}},
		{"all", 9, of(1, 1, 1, 1, 1), []int{5}},
		{"one by one", 1, of(1, 1, 1), []int{1, 1, 1}},
		{"by twos", 2, of(1, 1, 1, 1, 1), []int{2, 2, 1}},
		{"just Take", 3, of(1, 1, 1), []int{3}},
		{"a Take above the queue", 256, of(1, 1, 1, 1), []int{4}},
		{"just MaxRecords", 9, of(100, 100, 56), []int{3}},
		{"one record above", 9, of(100, 100, 57), []int{2, 1}},
		{"in order, though a later one would go", 9, of(200, 100, 10), []int{1, 2}},
		{"each full", 9, of(256, 256, 1), []int{1, 1, 1}},
		{"just MaxBatch", 9, [][]api.Record{half, half}, []int{2}},
		{"one byte above", 9, [][]api.Record{half, ofSize(20 + 32759)}, []int{1, 1}},
		{"full of bytes", 9, [][]api.Record{ofSize(65536), some(1, 1)}, []int{1, 1}},
	} {
		p := both(t, fresh(t), config(1, 6, 6, row.take))
		for i, l := range row.lists {
			p.call(t, i, produce(0, l...))
		}
		left, at := len(row.lists), int64(0)
		for _, n := range row.want {
			p.step(t, 6)
			left -= n
			wantPart(t, row.what, p.core, 0, api.FlushWrites, left, n, at)
			for range 4 {
				p.step(t, 6)
			}
			for _, l := range row.lists[len(row.lists)-left-n : len(row.lists)-left] {
				at += int64(len(l))
			}
			wantPart(t, row.what, p.core, 0, api.FlushIdle, left, 0, at)
		}
		for i := range row.lists {
			p.step(t, i)
		}
		wantCounts(t, row.what, p.core, len(row.want), len(row.want), len(row.lists))
	}
}

// P16.4: partitions are flushed apart from one another.
func TestFlushApart(t *testing.T) {
	p := both(t, fresh(t), config(3, 6, 3, 3))
	for i := range 6 {
		p.call(t, i, produce(i%3, some(2, i)...))
	}
	for k, steps := range []int{4, 0, 2} {
		for range steps {
			p.step(t, 6+k)
		}
	}
	wantCan(t, "apart", p.core, "......yyy")
	wantPart(t, "apart", p.core, 0, api.FlushAnswers, 0, 2, 4)
	wantPart(t, "apart", p.core, 1, api.FlushIdle, 2, 0, 0)
	wantPart(t, "apart", p.core, 2, api.FlushSyncs, 0, 2, 0)
	for k, steps := range []int{1, 5, 3} {
		for range steps {
			p.step(t, 6+k)
		}
	}
	for i := range 6 {
		wantReturn(t, "apart", p.core, i, api.Reply{Offset: int64(i / 3 * 2)})
	}
	wantCounts(t, "apart", p.core, 3, 3, 6)
}

// fault is a core whose flusher has a fault at one of its disk's steps: two batches stand, the second one fills the segment, so that the third rolls.
func fault(t *testing.T, at int, f api.Fate) *pair {
	t.Helper()
	c := config(2, 6, 3, 2)
	c.Log.Roll = 60
	p := both(t, fresh(t), c)
	for range 2 {
		p.call(t, 0, produce(0, some(1, 1)...))
		for range 5 {
			p.step(t, 6)
		}
		p.step(t, 0)
	}
	p.feed(t, behind(at, f)...)
	return p
}

// P16.4, the document's example 8: whichever step of the disk fails, whether by a fault or as it is full: all that were taken, and all that are queued, are answered ErrDisk, and it is dead; readers go on.
func TestFlushFaults(t *testing.T) {
	for _, f := range []api.Fate{fail(0), fail(20), fail(9999), full(0), full(20)} {
		for at := range 5 { // a roll's sync, creation and sync of the directory; the batch's append; its sync
			p := fault(t, at, f)
			for i := range 2 {
				p.call(t, i, produce(0, some(2, i)...))
			}
			p.step(t, 6)
			p.call(t, 4, fetch(0, 0, 9))
			for i := 2; i < 4; i++ {
				p.call(t, i, produce(0, some(2, i)...))
			}
			p.call(t, 5, produce(1, one()))
			if at == 4 {
				p.step(t, 6)
			}
			wantPart(t, "ahead", p.core, 0, api.FlushWrites+api.FlushState(at/4), 2, 2, 2)
			p.step(t, 6)
			wantPart(t, "dead", p.core, 0, api.FlushDead, 0, 0, 2)
			if s, _ := p.core.Part(0); !s.Log.Dead {
				t.Errorf("the log is not dead: %v", s)
			}
			wantClients(t, "dead", p.core, 2, 2, 2, 2, api.ClientLooks, api.ClientWaits)
			wantCan(t, "dead", p.core, "yyyyy..y")
			wantCounts(t, "dead", p.core, 2+at/4, 2, 4)
			for i := range 4 {
				wantReturn(t, "dead", p.core, i, api.Reply{Err: api.ErrDisk})
			}
			read := api.Reply{Offset: 2, Records: append(some(1, 1), some(1, 1)...)}
			wantReturn(t, "looked ahead of it", p.core, 4, read)
			wantFetched(t, "looks behind it", p.core, 4, fetch(0, 0, 9), read)
			wantFetched(t, "at the mark", p.core, 4, fetch(0, 2, 9), api.Reply{Offset: 2})
			wantFetched(t, "what was not synced", p.core, 4, fetch(0, 3, 9), api.Reply{Err: api.ErrRange})
			wantRecords(t, "dead", p.core, 0, 0, read.Records...)
			wantRefused(t, "dead", p.core, 0, produce(0, one()), api.ErrDead)
			wantStepError(t, "dead", p.core, 6, api.ErrWait)
			wantSteps(t, "the other one", p.core, 7, 5)
			wantReturn(t, "the other one", p.core, 5, api.Reply{})
			wantProduced(t, "the other one", p.core, 0, produce(1, one()), 1)
		}
	}
}

// P16.4: ErrDisk, too, where the disk can't have another file: what a flusher answers does not tell by what the log refused.
func TestFlushFullDisk(t *testing.T) {
	d := fresh(t)
	c := usual
	c.Log.Roll = 1
	p := both(t, d, c)
	for i := range 4095 {
		name := "x" + string([]byte{'a' + byte(i>>8), 'a' + byte(i>>4&15), 'a' + byte(i&15)})
		oks(t, d.Create(name), p.plain.disk.Create(name))
	}
	p.call(t, 0, produce(0, one()))
	for range 5 {
		p.step(t, 2)
	}
	p.step(t, 0)
	p.call(t, 0, produce(0, one()))
	p.step(t, 2)
	p.step(t, 2)
	wantPart(t, "full", p.core, 0, api.FlushDead, 0, 0, 1)
	wantReturn(t, "full", p.core, 0, api.Reply{Err: api.ErrDisk})
	wantCounts(t, "full", p.core, 1, 1, 2)
}

// P16.4: where no further offset is left the log refuses, and the flusher dies, though no step of the disk has failed.
func TestFlushLastOffset(t *testing.T) {
	for _, row := range []struct {
		what string
		base int64
		name string
		goes int
	}{
		{"the last two", 1<<53 - 1, "pa-1fffffffffffff", 2},
		{"the last one", 1 << 53, "pa-20000000000000", 1},
	} {
		d := fresh(t)
		lay(t, d, row.name, nil)
		p := both(t, d, config(1, 3, 3, 1))
		wantPart(t, row.what, p.core, 0, api.FlushIdle, 0, 0, row.base)
		p.call(t, 2, produce(0, some(row.goes, 2)...))
		for range 5 {
			p.step(t, 3)
		}
		if r, _, _ := p.step(t, 2); r.Err != api.OK || r.Offset != row.base {
			t.Errorf("%s: %v", row.what, r)
		}
		wantFetched(t, row.what, p.core, 2, fetch(0, row.base, 9), api.Reply{Offset: 1<<53 + 1, Records: some(row.goes, 2)})
		p.call(t, 0, produce(0, one()))
		p.call(t, 1, produce(0, one()))
		p.step(t, 3)
		p.step(t, 3)
		wantPart(t, row.what, p.core, 0, api.FlushDead, 0, 0, 1<<53+1)
		if s, _ := p.core.Part(0); s.Log.Dead {
			t.Errorf("%s: %v", row.what, s)
		}
		wantReturn(t, row.what, p.core, 1, api.Reply{Err: api.ErrDisk})
		wantReturn(t, row.what, p.core, 0, api.Reply{Err: api.ErrDisk})
		wantRefused(t, row.what, p.core, 0, produce(0, one()), api.ErrDead)
		wantFetched(t, row.what, p.core, 2, fetch(0, 1<<53+1, 9), api.Reply{Offset: 1<<53 + 1})
	}

	// Two calls that were taken together, and would go alone, are refused together.
	d := fresh(t)
	lay(t, d, "pa-20000000000000", nil)
	p := both(t, d, usual)
	p.call(t, 0, produce(0, one()))
	p.call(t, 1, produce(0, one()))
	p.step(t, 2)
	p.step(t, 2)
	wantPart(t, "together", p.core, 0, api.FlushDead, 0, 0, 1<<53)
	wantCounts(t, "together", p.core, 0, 0, 2)
	if f, e := d.File("pa-20000000000000"); f.Size != 0 || e != api.OK {
		t.Errorf("%v %v", f, e)
	}
}

// P16.4: a flusher that has died is dead till the log is opened anew; then it goes on behind what stands.
func TestFlushDeadAnew(t *testing.T) {
	for at := range 5 {
		p := fault(t, at, fail(0))
		p.call(t, 0, produce(0, some(2, 9)...))
		for range 3 {
			p.step(t, 6)
		}
		wantPart(t, "dead", p.core, 0, api.FlushDead, 0, 0, 2)
		o, e := p.disk.Crash(api.Stop{})
		oks(t, e)
		c := opened(t, o, p.core.Config())
		wantPart(t, "anew", c, 0, api.FlushIdle, 0, 0, 2)
		wantProduced(t, "anew", c, 0, produce(0, one()), 2)
	}
}
