package core_test

import (
	"math/rand"
	"slices"
	"testing"

	"millrace/api"
	"millrace/disk"
	"millrace/partlog"
	"millrace/stops"
)

// watcher follows a core from outside, by plain lists: a Produce takes effect when the mark is raised, a Fetch when it looks at the mark (P0.1).
type watcher struct {
	*pair
	stands [][]api.Record // below each partition's mark
	unsure [][]api.Record // of each partition the batch that its flusher has begun to write, and not raised
	begun  [][]int        // of each partition the clients whose Produces have taken no effect yet, in the order in which they called
	calls  []api.Call     // each client's
	want   []api.Reply    // what is to be returned, once the call has taken effect
	told   [][]int64      // the greatest mark that each client was told of each partition
}

func watched(t *testing.T, c api.CoreConfig) *watcher {
	t.Helper()
	w := &watcher{pair: both(t, fresh(t), c)}
	w.stands, w.unsure, w.begun = make([][]api.Record, c.Parts), make([][]api.Record, c.Parts), make([][]int, c.Parts)
	w.calls, w.want = make([]api.Call, c.Clients), make([]api.Reply, c.Clients)
	for range c.Clients {
		w.told = append(w.told, make([]int64, c.Parts))
	}
	return w
}

// begin is a client's call.
func (w *watcher) begin(t *testing.T, client int, x api.Call) {
	t.Helper()
	_, returned, e := w.call(t, client, x)
	if returned || e != api.OK {
		return
	}
	w.calls[client] = x
	if x.Kind == api.CallProduce {
		w.begun[x.Part] = append(w.begun[x.Part], client)
		return
	}
	l := w.stands[x.Part]
	if x.Offset < 0 || x.Offset > int64(len(l)) {
		w.want[client] = api.Reply{Err: api.ErrRange}
		return
	}
	w.want[client] = api.Reply{Offset: int64(len(l)), Records: l[x.Offset:min(len(l), int(x.Offset)+x.Most)]}
}

// pick gives a step to the task that is next by a pick; it answers false, if none can go on.
func (w *watcher) pick(t *testing.T, pick int) bool {
	t.Helper()
	var ready []int
	for task, can := range w.core.Can() {
		if can {
			ready = append(ready, task)
		}
	}
	if len(ready) == 0 {
		return false
	}
	w.follow(t, ready[pick%len(ready)])
	return true
}

// follow gives a task a step, and holds what it does to the lists.
func (w *watcher) follow(t *testing.T, task int) {
	t.Helper()
	clients := len(w.calls)
	if task < clients {
		r, returned, e := w.step(t, task)
		if !sameReply(r, w.want[task]) || !returned || e != api.OK {
			t.Errorf("P0.1: client %d: %v: %v, want %v", task, w.calls[task], short(r), short(w.want[task]))
		}
		w.wantStanding(t, task, r)
		w.want[task] = api.Reply{}
		return
	}
	k := task - clients
	was, _ := w.core.Part(k)
	if _, returned, e := w.step(t, task); returned || e != api.OK {
		t.Errorf("flusher %d: %v %v", k, returned, e)
	}
	now, _ := w.core.Part(k)
	switch {
	case was.Flush == api.FlushWrites:
		for _, client := range w.begun[k][:was.Taken] {
			w.unsure[k] = append(w.unsure[k], w.calls[client].Records...)
		}
	case was.Flush == api.FlushRaises:
		w.unsure[k] = nil
	}
	switch {
	case now.Flush == api.FlushDead:
		for _, client := range w.begun[k] {
			w.want[client] = api.Reply{Err: api.ErrDisk}
		}
		w.begun[k] = nil
	case was.Flush == api.FlushRaises:
		for _, client := range w.begun[k][:was.Taken] {
			w.want[client] = api.Reply{Offset: int64(len(w.stands[k]))}
			w.stands[k] = append(w.stands[k], w.calls[client].Records...)
		}
		w.begun[k] = w.begun[k][was.Taken:]
	}
	if now.Mark != int64(len(w.stands[k])) || now.Mark < was.Mark {
		t.Errorf("P16.6: the mark is %d, was %d, want %d", now.Mark, was.Mark, len(w.stands[k]))
	}
}

// wantStanding asks what a client was just told to be in what a crash leaves for sure (P0.3), and the mark not to have fallen.
func (w *watcher) wantStanding(t *testing.T, client int, r api.Reply) {
	t.Helper()
	x := w.calls[client]
	if x.Kind != api.CallFetch || r.Err != api.OK {
		return
	}
	if told := &w.told[client][x.Part]; r.Offset < *told {
		t.Errorf("P0.3: client %d was told %d, and then %d", client, *told, r.Offset)
	} else {
		*told = r.Offset
	}
	l := w.left(t, x.Part, api.Stop{})
	if r.Offset > int64(len(l)) || !sameRecords(l[x.Offset:int(x.Offset)+len(r.Records)], r.Records) {
		t.Errorf("P0.3: client %d was told %v up to %d, a crash leaves %d records", client, short(r), r.Offset, len(l))
	}
	if x.Offset == r.Offset && len(r.Records) > 0 {
		t.Errorf("P0.3: records at the mark: %v", short(r))
	}
}

// left is what a crash leaves of a partition.
func (w *watcher) left(t *testing.T, k int, s api.Stop) []api.Record {
	t.Helper()
	o, e := w.disk.Crash(s)
	oks(t, e)
	return recordsOn(t, o, k, w.plain.config.Log)
}

// recordsOn are all records of a partition's log.
func recordsOn(t *testing.T, d *disk.Disk, k int, c api.LogConfig) []api.Record {
	t.Helper()
	var l []api.Record
	for _, r := range logOn(t, d, "p"+string("abcdef"[k]), c).All() {
		l = append(l, r)
	}
	return l
}

// wantSound asks for what holds at all times (P16.6).
func (w *watcher) wantSound(t *testing.T) {
	t.Helper()
	can := w.core.Can()
	for client, x := range w.calls {
		s, _ := w.core.Client(client)
		if s == api.ClientWaits && !can[len(w.calls)+x.Part] {
			t.Errorf("P16.6: client %d waits for nobody", client)
		}
	}
	taken := 0
	for k := range w.stands {
		p, _ := w.core.Part(k)
		if p.Mark > p.Log.Stands {
			t.Errorf("P16.6: the mark %d, but just %d stand", p.Mark, p.Log.Stands)
		}
		if p.Queued > w.plain.config.Queue || p.Taken > w.plain.config.Take {
			t.Errorf("P16.6: %v", p)
		}
		taken += p.Taken
	}
	if n := w.core.Counts(); n.Syncs > n.Batches || n.Batches > n.Taken || taken > n.Taken {
		t.Errorf("P16.6: %v", n)
	}
}

// drawnCall is of any kind, mostly one that is not refused.
func drawnCall(r *rand.Rand, parts int, mark int64, many int) api.Call {
	k := r.Intn(parts)
	switch {
	case r.Intn(20) == 0:
		return produce(r.Intn(2*parts)-parts/2, some(r.Intn(2)*256+r.Intn(2), many)...)
	case r.Intn(3) == 0:
		return fetch(k, r.Int63n(mark+4)-1, r.Intn(6))
	}
	return produce(k, some(1+r.Intn([]int{3, 3, 120}[r.Intn(3)]), many)...)
}

// drawnConfig is a small one.
func drawnConfig(r *rand.Rand) api.CoreConfig {
	c := config(1+r.Intn(3), 1+r.Intn(6), 1+r.Intn(4), 1+r.Intn(4))
	c.Log = api.LogConfig{Roll: 1 + r.Intn(500), Step: 1 + r.Intn(100)}
	return c
}

// P16.1 to P16.6, P0.1, P0.3: drawn scripts of drawn configurations, with faults and without, are answered as the chapter's words say, and as plain lists do.
func TestDrawn(t *testing.T) {
	r := rand.New(rand.NewSource(166))
	died := 0
	for round := range 100 {
		w := watched(t, drawnConfig(r))
		for many := range 60 {
			if round%2 == 0 && r.Intn(12) == 0 {
				w.feed(t, slices.Repeat([]api.Fate{{}}, r.Intn(20))...)
				w.feed(t, []api.Fate{fail(r.Intn(50) - 2), full(r.Intn(50) - 2)}[r.Intn(2)])
			}
			client := r.Intn(len(w.calls))
			w.begin(t, client, drawnCall(r, len(w.stands), int64(len(w.stands[0])), many))
			for range r.Intn(5) {
				w.pick(t, r.Intn(7))
				w.wantSound(t)
			}
			if t.Failed() {
				t.FailNow()
			}
		}
		for w.pick(t, r.Intn(7)) {
			w.wantSound(t)
		}
		w.wantEnded(t)
		for k := range w.stands {
			if p, _ := w.core.Part(k); p.Flush == api.FlushDead {
				died++
			}
		}
	}
	if died < 20 {
		t.Errorf("just %d died", died)
	}
}

// wantEnded asks for that no call is left, once no task can go on; and for all that was answered in the logs that are left.
func (w *watcher) wantEnded(t *testing.T) {
	t.Helper()
	for client := range w.calls {
		if s, _ := w.core.Client(client); s != api.ClientIdle {
			t.Errorf("client %d is left: %v", client, s)
		}
	}
	for k, l := range w.stands {
		wantRecords(t, "in the end", w.core, k, 0, l...)
		if left := w.left(t, k, api.Stop{}); len(left) < len(l) || !sameRecords(left[:len(l)], l) {
			t.Errorf("partition %d: %d records are left, want %d", k, len(left), len(l))
		}
	}
}

// P16.6, P0.1: all ways to go on, one after another, of two clients with these calls: at each place any one of those goes on that can go on, or begin a call.
func TestAllPicks(t *testing.T) {
	first, second := produce(0, some(1, 1)...), produce(0, some(2, 2)...)
	for _, row := range []struct {
		config api.CoreConfig
		fates  []api.Fate
		calls  [][]api.Call
	}{
		{config(1, 2, 2, 2), nil, [][]api.Call{{first, fetch(0, 0, 9)}, {second}}},
		{config(1, 2, 1, 1), nil, [][]api.Call{{first}, {second, fetch(0, 1, 1)}}},
		{config(1, 2, 1, 2), nil, [][]api.Call{{first}, {fetch(0, 0, 9), fetch(0, 1, 9), fetch(0, 0, 0)}}},
		{config(2, 2, 1, 1), nil, [][]api.Call{{first}, {produce(1, some(2, 2)...)}}},
		{config(1, 2, 1, 2), behind(1, fail(9)), [][]api.Call{{first, fetch(0, 0, 1)}, {second, fetch(0, 1, 9)}}},
	} {
		runs := 0
		for picks := []int{}; picks != nil; runs++ {
			picks = nextPicks(t, row.config, row.fates, row.calls, picks)
		}
		if runs < 100 {
			t.Errorf("just %d runs", runs)
		}
	}
}

// nextPicks does these picks, and 0 behind them, and answers the picks that come next in order, none behind the last ones.
func nextPicks(t *testing.T, c api.CoreConfig, fates []api.Fate, calls [][]api.Call, picks []int) []int {
	t.Helper()
	w := watched(t, c)
	w.feed(t, fates...)
	left := slices.Clone(calls)
	var done, ways []int
	for {
		acts := w.acts(left)
		if len(acts) == 0 {
			break
		}
		pick := 0
		if len(done) < len(picks) {
			pick = picks[len(done)]
		}
		done, ways = append(done, pick), append(ways, len(acts))
		acts[pick](t)
		w.wantSound(t)
	}
	w.wantEnded(t)
	if t.Failed() {
		t.Fatalf("behind the picks %v", done)
	}
	for i := len(done) - 1; i >= 0; i-- {
		if done[i]+1 < ways[i] {
			return append(done[:i:i], done[i]+1)
		}
	}
	return nil
}

// acts are all that may come next: a task's step, or an idle client's next call.
func (w *watcher) acts(left [][]api.Call) []func(*testing.T) {
	var l []func(*testing.T)
	for task, can := range w.core.Can() {
		if can {
			l = append(l, func(t *testing.T) { w.follow(t, task) })
		}
	}
	for client := range left {
		if len(left[client]) > 0 && w.plain.clients[client].state == api.ClientIdle {
			l = append(l, func(t *testing.T) {
				w.begin(t, client, left[client][0])
				left[client] = left[client][1:]
			})
		}
	}
	return l
}

// beginAll lets each idle client begin its next call, again as long as one returns at once.
func (w *watcher) beginAll(t *testing.T, left [][]api.Call) {
	t.Helper()
	for client := range left {
		for len(left[client]) > 0 && w.plain.clients[client].state == api.ClientIdle {
			w.begin(t, client, left[client][0])
			left[client] = left[client][1:]
		}
	}
}

// P0.1, P0.3: a crash behind each step, in each of its ways: all that was answered is there, and behind it whole calls' records alone, of calls that were not answered, in their order.
func TestCrashes(t *testing.T) {
	r := rand.New(rand.NewSource(167))
	ways, more := 0, 0
	for round := range 400 {
		c := drawnConfig(r)
		c.Log.Roll = 1 + r.Intn(120)
		w := watched(t, c)
		if round%3 == 0 {
			w.feed(t, behind(r.Intn(20), fail(r.Intn(60)))...)
		}
		for many := range 12 {
			client := r.Intn(len(w.calls))
			w.begin(t, client, produce(r.Intn(c.Parts), some(1+r.Intn(2), many)...))
			for range r.Intn(8) {
				w.pick(t, r.Intn(7))
			}
			n, e := stops.Count(w.disk)
			oks(t, e)
			way, e := stops.At(w.disk, r.Int63n(n))
			oks(t, e)
			o, e := w.disk.Crash(way)
			oks(t, e)
			ways++
			if w.wantLeft(t, o) {
				more++
			}
		}
	}
	if more < 200 || ways-more < 200 {
		t.Errorf("of %d ways %d left more", ways, more)
	}
}

// wantLeft opens a core on what a crash left, and asks for what stood there, and none or all of a batch that was begun; it answers whether such a one is there.
func (w *watcher) wantLeft(t *testing.T, o *disk.Disk) bool {
	t.Helper()
	more := false
	c := opened(t, o, w.plain.config)
	for k, l := range w.stands {
		p, _ := w.core.Part(k)
		got, begin, e := c.Records(k)
		whole := sameRecords(got, slices.Concat(l, w.unsure[k]))
		if begin != 0 || e != api.OK || !whole && (p.Flush == api.FlushRaises || !sameRecords(got, l)) {
			t.Fatalf("partition %d: %v: %d records from %d on, %v, want %d, or %d more", k, p, len(got), begin, e, len(l), len(w.unsure[k]))
		}
		more = more || whole && len(w.unsure[k]) > 0
	}
	return more
}

// P16.2 to P16.5: the document's examples 1 and 3 to 5.
func TestDocExamples(t *testing.T) {
	c := opened(t, fresh(t), usual)
	wantProduced(t, "1", c, 0, produce(0, one()), 0)
	wantPart(t, "1", c, 0, api.FlushIdle, 0, 0, 1)
	wantCounts(t, "1", c, 1, 1, 1)

	three := config(1, 3, 2, 2)
	c = opened(t, fresh(t), three)
	wantBegun(t, "3", c, 0, produce(0, some(1, 0)...))
	wantBegun(t, "3", c, 1, produce(0, some(1, 1)...))
	wantRefused(t, "3", c, 2, produce(0, some(1, 2)...), api.ErrFull)
	wantSteps(t, "3", c, 3, 5)
	wantStepError(t, "3", c, 3, api.ErrWait)
	wantRecords(t, "3", c, 0, 0, append(some(1, 0), some(1, 1)...)...)

	c = opened(t, fresh(t), usual)
	wantBegun(t, "4", c, 0, produce(0, one()))
	wantSteps(t, "4", c, 2, 3)
	wantFetched(t, "4: synced, not raised", c, 1, fetch(0, 0, 9), api.Reply{})
	wantSteps(t, "4", c, 2, 1)
	wantFetched(t, "4: raised", c, 1, fetch(0, 0, 9), api.Reply{Offset: 1, Records: []api.Record{one()}})
	wantFetched(t, "5: at the mark", c, 1, fetch(0, 1, 9), api.Reply{Offset: 1})
	wantFetched(t, "5: above it", c, 1, fetch(0, 2, 9), api.Reply{Err: api.ErrRange})
}

// P0.3: what a flusher has synced at the log itself stands, also when another partition's step of the disk fails.
func TestStandsBeyondFaults(t *testing.T) {
	p := both(t, fresh(t), config(2, 2, 2, 2))
	p.call(t, 0, produce(0, some(2, 0)...))
	p.call(t, 1, produce(1, some(3, 1)...))
	for range 3 {
		p.step(t, 2)
	}
	p.feed(t, fail(0))
	p.step(t, 3)
	p.step(t, 3)
	p.step(t, 2)
	p.step(t, 2)
	wantReturn(t, "it was synced", p.core, 0, api.Reply{})
	wantReturn(t, "it failed", p.core, 1, api.Reply{Err: api.ErrDisk})
	o, e := p.disk.Crash(api.Stop{})
	oks(t, e)
	if s, e := partlog.Check(o, "pa"); s.End != 2 || e != api.OK {
		t.Errorf("%v %v", s, e)
	}
	if s, e := partlog.Check(o, "pb"); s.End != 0 || e != api.OK {
		t.Errorf("%v %v", s, e)
	}
}
