package core_test

import (
	"bytes"
	"math"
	"slices"
	"testing"

	"millrace/api"
	"millrace/core"
	"millrace/disk"
	"millrace/partlog"
)

// usual is the chapter's configuration: one partition, whose flusher is task 2, and two clients.
var usual = config(1, 2, 2, 2)

func config(parts, clients, queue, take int) api.CoreConfig {
	return api.CoreConfig{Parts: parts, Clients: clients, Queue: queue, Take: take, Log: api.LogConfig{Roll: 4096, Step: 64}}
}

func fail(keep int) api.Fate { return api.Fate{Kind: api.FateFail, Keep: keep} }
func full(keep int) api.Fate { return api.Fate{Kind: api.FateFull, Keep: keep} }

// behind is that fate, behind so many good ones.
func behind(n int, f api.Fate) []api.Fate { return append(make([]api.Fate, n), f) }

// one is the chapter's record, of 13 bytes.
func one() api.Record { return api.Record{Time: 1, Key: []byte("a")} }

// some are records of 14 bytes, each unlike the others, and unlike those of another first one.
func some(n, first int) []api.Record {
	var l []api.Record
	for i := range n {
		l = append(l, api.Record{Time: int64(first), Key: []byte{byte(i)}, Value: []byte{byte(i >> 8)}})
	}
	return l
}

// ofSize are records whose batch has that many bytes.
func ofSize(n int) []api.Record {
	const most = 12 + api.MaxKey + api.MaxValue
	var l []api.Record
	n -= 20
	for n > most {
		l = append(l, sized(min(most, n-12)))
		n -= min(most, n-12)
	}
	return append(l, sized(n))
}

// sized is a record of that many bytes.
func sized(n int) api.Record {
	key := min(n-12, api.MaxKey)
	return api.Record{Time: 3, Key: bytes.Repeat([]byte{'k'}, key), Value: bytes.Repeat([]byte{'v'}, n-12-key)}
}

func produce(part int, l ...api.Record) api.Call {
	return api.Call{Kind: api.CallProduce, Part: part, Records: l}
}

func fetch(part int, from int64, most int) api.Call {
	return api.Call{Kind: api.CallFetch, Part: part, Offset: from, Most: most}
}

// far are numbers at which a call must end, too.
func far() []int {
	return []int{math.MinInt, math.MinInt + 1, math.MinInt32, -65536, -2, -1, 0, 1, 2, 3, 15, 16, 17, 63, 64, 65, 79, 80, 81, 255, 256, 257, 65536, math.MaxInt32, math.MaxInt - 1, math.MaxInt}
}

// oks fails if one is an error.
func oks(t *testing.T, l ...api.Errno) {
	t.Helper()
	for i, e := range l {
		if e != api.OK {
			t.Fatalf("call %d: %v", i, e)
		}
	}
}

func fresh(t *testing.T, fates ...api.Fate) *disk.Disk {
	t.Helper()
	d, e := disk.New(fates...)
	oks(t, e)
	return d
}

// opened is a core on a disk.
func opened(t *testing.T, d *disk.Disk, c api.CoreConfig) *core.Core {
	t.Helper()
	x, e := core.Open(d, c)
	if x == nil || e != api.OK {
		t.Fatalf("Open(%v): %v", c, e)
	}
	return x
}

// wantNoCore asks Open for an error, and no core.
func wantNoCore(t *testing.T, what string, d *disk.Disk, c api.CoreConfig, want api.Errno) {
	t.Helper()
	if x, e := core.Open(d, c); x != nil || e != want {
		t.Errorf("%s: Open: %v %v, want %v", what, x, e, want)
	}
}

// wantCall asks Call for what it answers.
func wantCall(t *testing.T, what string, c *core.Core, client int, x api.Call, reply api.Reply, returned bool, want api.Errno) {
	t.Helper()
	if r, done, e := c.Call(client, x); !sameReply(r, reply) || done != returned || e != want {
		t.Errorf("%s: Call(%d): %v %v %v, want %v %v %v", what, client, short(r), done, e, short(reply), returned, want)
	}
}

// wantBegun asks Call to begin a call that goes on later.
func wantBegun(t *testing.T, what string, c *core.Core, client int, x api.Call) {
	t.Helper()
	wantCall(t, what, c, client, x, api.Reply{}, false, api.OK)
}

// wantRefused asks Call to return at once, with that Err.
func wantRefused(t *testing.T, what string, c *core.Core, client int, x api.Call, why api.Errno) {
	t.Helper()
	wantCall(t, what, c, client, x, api.Reply{Err: why}, true, api.OK)
}

// wantCallError asks Call for that error.
func wantCallError(t *testing.T, what string, c *core.Core, client int, x api.Call, want api.Errno) {
	t.Helper()
	wantCall(t, what, c, client, x, api.Reply{}, false, want)
}

// wantStep asks Step for what it answers.
func wantStep(t *testing.T, what string, c *core.Core, task int, reply api.Reply, returned bool, want api.Errno) {
	t.Helper()
	if r, done, e := c.Step(task); !sameReply(r, reply) || done != returned || e != want {
		t.Errorf("%s: Step(%d): %v %v %v, want %v %v %v", what, task, short(r), done, e, short(reply), returned, want)
	}
}

// wantReturn asks a client's step for that reply.
func wantReturn(t *testing.T, what string, c *core.Core, client int, reply api.Reply) {
	t.Helper()
	wantStep(t, what, c, client, reply, true, api.OK)
}

// wantSteps gives a flusher so many steps, each of which returns no call.
func wantSteps(t *testing.T, what string, c *core.Core, task, n int) {
	t.Helper()
	for range n {
		wantStep(t, what, c, task, api.Reply{}, false, api.OK)
	}
}

// wantStepError asks Step for that error.
func wantStepError(t *testing.T, what string, c *core.Core, task int, want api.Errno) {
	t.Helper()
	wantStep(t, what, c, task, api.Reply{}, false, want)
}

// wantPart asks Part for a flusher's state, how many calls are queued and taken, and the mark.
func wantPart(t *testing.T, what string, c *core.Core, k int, flush api.FlushState, queued, taken int, mark int64) {
	t.Helper()
	p, e := c.Part(k)
	if p.Flush != flush || p.Queued != queued || p.Taken != taken || p.Mark != mark || e != api.OK {
		t.Errorf("%s: Part(%d): %v %v, want %v %d %d %d", what, k, p, e, flush, queued, taken, mark)
	}
}

// wantClients asks Client for each one's state.
func wantClients(t *testing.T, what string, c *core.Core, want ...api.ClientState) {
	t.Helper()
	for i, state := range want {
		if s, e := c.Client(i); s != state || e != api.OK {
			t.Errorf("%s: Client(%d): %v %v, want %v", what, i, s, e, state)
		}
	}
}

// wantCan asks Can for truths, as a text: y can go on.
func wantCan(t *testing.T, what string, c *core.Core, want string) {
	t.Helper()
	got := ""
	for _, can := range c.Can() {
		if can {
			got += "y"
		} else {
			got += "."
		}
	}
	if got != want {
		t.Errorf("%s: Can: %s, want %s", what, got, want)
	}
}

// wantCounts asks Counts for its numbers.
func wantCounts(t *testing.T, what string, c *core.Core, batches, syncs, taken int) {
	t.Helper()
	if n := c.Counts(); n != (api.CoreCounts{Batches: batches, Syncs: syncs, Taken: taken}) {
		t.Errorf("%s: Counts: %v, want %d %d %d", what, n, batches, syncs, taken)
	}
}

// wantRecords asks Records for these, from an offset on.
func wantRecords(t *testing.T, what string, c *core.Core, k int, begin int64, want ...api.Record) {
	t.Helper()
	if l, b, e := c.Records(k); !sameRecords(l, want) || b != begin || e != api.OK {
		t.Errorf("%s: Records(%d): %d from %d on, %v, want %d from %d on", what, k, len(l), b, e, len(want), begin)
	}
}

// wantFetched lets an idle client fetch, and asks for that reply.
func wantFetched(t *testing.T, what string, c *core.Core, client int, x api.Call, reply api.Reply) {
	t.Helper()
	wantBegun(t, what, c, client, x)
	wantReturn(t, what, c, client, reply)
}

// wantProduced lets an idle client produce alone, and asks for that offset.
func wantProduced(t *testing.T, what string, c *core.Core, client int, x api.Call, at int64) {
	t.Helper()
	wantBegun(t, what, c, client, x)
	wantSteps(t, what, c, c.Config().Clients+x.Part, 5)
	wantReturn(t, what, c, client, api.Reply{Offset: at})
}

// wantUntouched asks a disk to be as it was, without another step.
func wantUntouched(t *testing.T, what string, d, was *disk.Disk) {
	t.Helper()
	n, left := d.Steps()
	if m, wasLeft := was.Steps(); n != m || left != wasLeft || !d.Same(was) {
		t.Errorf("%s: steps were done: %d, not %d", what, n, m)
	}
}

// logOn is a log that stands on a disk.
func logOn(t *testing.T, d *disk.Disk, name string, c api.LogConfig) *partlog.Log {
	t.Helper()
	l, e := partlog.Open(d, name, c)
	oks(t, e)
	return l
}

// lay puts a file with these bytes on a disk; all of it lasts.
func lay(t *testing.T, d *disk.Disk, name string, b []byte) {
	t.Helper()
	oks(t, d.Create(name), d.Append(name, b), d.Sync(name), d.SyncDir())
}

func sameRecord(a, b api.Record) bool {
	return a.Time == b.Time && bytes.Equal(a.Key, b.Key) && bytes.Equal(a.Value, b.Value)
}

func sameRecords(a, b []api.Record) bool { return slices.EqualFunc(a, b, sameRecord) }

func sameReply(a, b api.Reply) bool {
	return a.Err == b.Err && a.Offset == b.Offset && sameRecords(a.Records, b.Records)
}

// short is what of a reply may stand in a test's report.
func short(r api.Reply) api.Reply {
	r.Records = r.Records[:min(len(r.Records), 5)]
	return r
}

// nones are a nil core, a zero one, and those that Open refused.
func nones(t *testing.T) map[string]*core.Core {
	first, _ := core.Open(nil, usual)
	second, _ := core.Open(fresh(t), api.CoreConfig{})
	third, _ := core.Open(fresh(t, fail(0)), usual)
	return map[string]*core.Core{"nil": nil, "zero": {}, "no disk": first, "no configuration": second, "a fault": third}
}
