package core_test

import (
	"slices"
	"testing"

	"millrace/api"
	"millrace/core"
	"millrace/disk"
	"millrace/partlog"
)

// plain is a core by the chapter's words: queues and what is read are plain lists; the steps of the disk are done by logs on a disk of its own.
type plain struct {
	config  api.CoreConfig
	disk    *disk.Disk
	clients []plainClient
	parts   []*plainPart
	counts  api.CoreCounts
}

type plainClient struct {
	state api.ClientState
	reply api.Reply // if it was answered
	call  api.Call  // if it looks
	seen  int64
}

// plainCall is one that is in a queue, or taken.
type plainCall struct {
	client  int
	records []api.Record
}

// plainPart is a partition. Its records are all that were appended, from its begin on.
type plainPart struct {
	log           *partlog.Log
	begin         int64
	records       []api.Record
	flush         api.FlushState
	queue, taken  []plainCall
	mark, batchAt int64
}

func (p *plainPart) end() int64 { return p.begin + int64(len(p.records)) }

// openPlain is a core that may be opened there.
func openPlain(t *testing.T, d *disk.Disk, c api.CoreConfig) (*plain, api.Errno) {
	t.Helper()
	x := &plain{config: c, disk: d, clients: make([]plainClient, c.Clients)}
	for k := range c.Parts {
		l, e := partlog.Open(d, []string{"pa", "pb", "pc", "pd", "pe"}[k], c.Log)
		if e != api.OK {
			return nil, e
		}
		p := &plainPart{log: l, begin: l.State().Begin}
		for _, r := range l.All() {
			p.records = append(p.records, r)
		}
		p.mark = p.end()
		x.parts = append(x.parts, p)
	}
	return x, api.OK
}

// call is a call that may be, of a client that is there.
func (x *plain) call(client int, c api.Call) (api.Reply, bool, api.Errno) {
	who := &x.clients[client]
	if who.state != api.ClientIdle {
		return api.Reply{}, false, api.ErrBusy
	}
	if c.Part < 0 || c.Part >= len(x.parts) {
		return api.Reply{Err: api.ErrPart}, true, api.OK
	}
	p := x.parts[c.Part]
	if c.Kind == api.CallFetch {
		*who = plainClient{state: api.ClientLooks, call: c, seen: p.mark}
		return api.Reply{}, false, api.OK
	}
	if !isBatch(c.Records) {
		return api.Reply{Err: api.ErrLarge}, true, api.OK
	}
	if p.flush == api.FlushDead {
		return api.Reply{Err: api.ErrDead}, true, api.OK
	}
	if len(p.queue) >= x.config.Queue {
		return api.Reply{Err: api.ErrFull}, true, api.OK
	}
	who.state = api.ClientWaits
	p.queue = append(p.queue, plainCall{client, c.Records})
	return api.Reply{}, false, api.OK
}

// can tells which tasks can go on.
func (x *plain) can() []bool {
	var can []bool
	for _, c := range x.clients {
		can = append(can, c.state > api.ClientWaits)
	}
	for _, p := range x.parts {
		can = append(can, p.flush != api.FlushDead && (p.flush != api.FlushIdle || len(p.queue) > 0))
	}
	return can
}

// step is a step of a task that is there.
func (x *plain) step(task int) (api.Reply, bool, api.Errno) {
	if !x.can()[task] {
		return api.Reply{}, false, api.ErrWait
	}
	if task < len(x.clients) {
		reply := x.returns(x.clients[task])
		x.clients[task] = plainClient{}
		return reply, true, api.OK
	}
	x.flush(x.parts[task-len(x.clients)])
	return api.Reply{}, false, api.OK
}

// returns is what a client's call returns.
func (x *plain) returns(c plainClient) api.Reply {
	if c.state == api.ClientAnswered {
		return c.reply
	}
	p := x.parts[c.call.Part]
	if c.call.Offset < p.begin || c.call.Offset > c.seen {
		return api.Reply{Err: api.ErrRange}
	}
	l := p.records[c.call.Offset-p.begin : c.seen-p.begin]
	return api.Reply{Offset: c.seen, Records: l[:min(len(l), c.call.Most)]}
}

// flush is a flusher's step.
func (x *plain) flush(p *plainPart) {
	switch p.flush {
	case api.FlushIdle:
		n := 1
		for n < min(len(p.queue), x.config.Take) && isBatch(together(p.queue[:n+1])) {
			n++
		}
		p.taken, p.queue = slices.Clone(p.queue[:n]), slices.Clone(p.queue[n:])
		x.counts.Taken += n
		p.flush = api.FlushWrites
	case api.FlushWrites:
		at, e := p.log.Append(together(p.taken)...)
		if x.failed(p, e) {
			return
		}
		p.batchAt, p.records = at, append(p.records, together(p.taken)...)
		x.counts.Batches++
		p.flush = api.FlushSyncs
	case api.FlushSyncs:
		if x.failed(p, p.log.Sync()) {
			return
		}
		x.counts.Syncs++
		p.flush = api.FlushRaises
	case api.FlushRaises:
		p.mark, p.flush = p.end(), api.FlushAnswers
	case api.FlushAnswers:
		at := p.batchAt
		for _, c := range p.taken {
			x.answer(c.client, api.Reply{Offset: at})
			at += int64(len(c.records))
		}
		p.taken, p.flush = nil, api.FlushIdle
	}
}

func (x *plain) answer(client int, r api.Reply) {
	x.clients[client] = plainClient{state: api.ClientAnswered, reply: r}
}

// failed tells whether a log has refused; its flusher is dead then.
func (x *plain) failed(p *plainPart, e api.Errno) bool {
	if e == api.OK {
		return false
	}
	for _, c := range slices.Concat(p.taken, p.queue) {
		x.answer(c.client, api.Reply{Err: api.ErrDisk})
	}
	p.taken, p.queue, p.flush = nil, nil, api.FlushDead
	return true
}

// together are the records of calls, in order.
func together(l []plainCall) []api.Record {
	var out []api.Record
	for _, c := range l {
		out = append(out, c.records...)
	}
	return out
}

// isBatch tells whether records go into one batch.
func isBatch(l []api.Record) bool {
	size := 20
	for _, r := range l {
		if r.Time < 0 || r.Time > 1<<53 || len(r.Key) > 256 || len(r.Value) > 4096 {
			return false
		}
		size += 12 + len(r.Key) + len(r.Value)
	}
	return len(l) >= 1 && len(l) <= 256 && size <= 65536
}

// pair is a core, the disk that it is on, and the plain one that it is to be as.
type pair struct {
	core  *core.Core
	disk  *disk.Disk
	plain *plain
}

// both opens a core and the plain one, each on a disk of its own that stands as d does.
func both(t *testing.T, d *disk.Disk, c api.CoreConfig) *pair {
	t.Helper()
	x, e := openPlain(t, d.Copy(), c)
	oks(t, e)
	p := &pair{opened(t, d, c), d, x}
	p.want(t, "opened")
	return p
}

// feed lets the same fates come to both disks.
func (p *pair) feed(t *testing.T, fates ...api.Fate) {
	t.Helper()
	oks(t, p.disk.Feed(fates...), p.plain.disk.Feed(fates...))
}

// call begins a call at both, and asks for the same.
func (p *pair) call(t *testing.T, client int, x api.Call) (api.Reply, bool, api.Errno) {
	t.Helper()
	reply, returned, e := p.plain.call(client, x)
	wantCall(t, "pair", p.core, client, x, reply, returned, e)
	p.want(t, "behind a call")
	return reply, returned, e
}

// step gives a task a step at both, and asks for the same.
func (p *pair) step(t *testing.T, task int) (api.Reply, bool, api.Errno) {
	t.Helper()
	reply, returned, e := p.plain.step(task)
	wantStep(t, "pair", p.core, task, reply, returned, e)
	p.want(t, "behind a step")
	return reply, returned, e
}

// want asks all calls that tell of a core for what the plain one is, and its disk for what the plain one's steps made of its own.
func (p *pair) want(t *testing.T, what string) {
	t.Helper()
	x := p.plain
	if got := p.core.Can(); !slices.Equal(got, x.can()) {
		t.Errorf("%s: Can: %v, want %v", what, got, x.can())
	}
	for i, c := range x.clients {
		if s, e := p.core.Client(i); s != c.state || e != api.OK {
			t.Errorf("%s: Client(%d): %v %v, want %v", what, i, s, e, c.state)
		}
	}
	for k, part := range x.parts {
		want := api.PartState{Flush: part.flush, Queued: len(part.queue), Taken: len(part.taken), Mark: part.mark, Log: part.log.State()}
		if s, e := p.core.Part(k); s != want || e != api.OK {
			t.Errorf("%s: Part(%d): %v %v, want %v", what, k, s, e, want)
		}
		wantRecords(t, what, p.core, k, part.begin, part.records[:part.mark-part.begin]...)
	}
	if n := p.core.Counts(); n != x.counts {
		t.Errorf("%s: Counts: %v, want %v", what, n, x.counts)
	}
	if c := p.core.Config(); c != x.config {
		t.Errorf("%s: Config: %v, want %v", what, c, x.config)
	}
	wantUntouched(t, what, p.disk, x.disk)
}
