package partlog_test

import (
	"math"
	"slices"
	"testing"

	"millrace/api"
	"millrace/disk"
	"millrace/partlog"
)

// P11.2, P11.3: the chapter's examples, in their order.
func TestExamples(t *testing.T) {
	d := fresh(t)
	l, e := partlog.Open(d, "p", usual)
	oks(t, e)
	for i, records := range [][]api.Record{{one(), one()}, {one()}} {
		if at, e := l.Append(records...); at != int64(2*i) || e != api.OK {
			t.Errorf("Append: %d %v", at, e)
		}
	}
	if s := l.State(); s != (api.LogState{End: 3, Stands: 2, Segments: 2}) {
		t.Errorf("State: %v", s)
	}
	oks(t, l.Sync())
	if s := l.State(); s != (api.LogState{End: 3, Stands: 3, Segments: 2}) {
		t.Errorf("State: %v", s)
	}
	if x, e := l.Read(1, 3, 9); !sameRecords(x, []api.Record{one(), one()}) || e != api.OK {
		t.Errorf("Read: %v %v", x, e)
	}
	if x, e := l.Read(0, 4, 9); x != nil || e != api.ErrRange {
		t.Errorf("Read: %v %v", x, e)
	}
	o, e := d.Crash(api.Stop{})
	oks(t, e)
	m, e := partlog.Open(o, "p", usual)
	oks(t, e)
	if m.State() != l.State() {
		t.Errorf("behind the crash: %v", m.State())
	}
	if n, e := m.Drop(2); n != 1 || e != api.OK || !slices.Equal(m.Segments(), []string{"p-00000000000002"}) {
		t.Errorf("Drop: %d %v %v", n, e, m.Segments())
	}
	oks(t, d.Feed(fail(0)))
	want(t, "Append", appendError(l, one()), api.ErrDisk)
	want(t, "Append", appendError(l, one()), api.ErrDead)
	if !l.State().Dead {
		t.Errorf("State: %v", l.State())
	}
}

// P11.2: the log rolls when the active segment has Roll bytes or more, and not below.
func TestRoll(t *testing.T) {
	const size = 41 // of a batch of one
	for _, c := range []struct{ roll, ahead int }{
		{1, 1}, {size - 1, 1}, {size, 1}, {size + 1, 2}, {2*size - 1, 2}, {2 * size, 2}, {2*size + 1, 3}, {5 * size, 5},
	} {
		d := fresh(t)
		l, p := both(t, d, api.LogConfig{Roll: c.roll, Step: 64})
		for i := range 3*c.ahead + 1 {
			wantAppend(t, "rolls", l, d, p, one())
			if s := l.State(); s.Segments != 1+i/c.ahead || s.Stands != int64(i/c.ahead*c.ahead) {
				t.Fatalf("Roll %d: behind %d: %v", c.roll, i+1, s)
			}
		}
		for i, name := range l.Segments() {
			if name != nameOf(int64(i*c.ahead)) {
				t.Errorf("Roll %d: %v", c.roll, l.Segments())
			}
			if f, _ := d.File(name); !f.NameLasts {
				t.Errorf("Roll %d: the name %s does not last", c.roll, name)
			}
		}
	}
}

// P11.2: steps: one without a roll, four with one.
func TestAppendSteps(t *testing.T) {
	d := fresh(t)
	l, p := both(t, d, usual)
	for i, steps := range []int{1, 4, 4} {
		n, _ := d.Steps()
		wantAppend(t, "steps", l, d, p, one())
		if m, _ := d.Steps(); m-n != steps {
			t.Errorf("Append %d: %d steps, want %d", i, m-n, steps)
		}
	}
	n, _ := d.Steps()
	wantSync(t, "steps", l, d, p)
	wantSync(t, "steps, again", l, d, p)
	if m, _ := d.Steps(); m-n != 2 {
		t.Errorf("Sync twice: %d steps", m-n)
	}
}

// P11.2: the greatest Roll: a segment of just below it has room for the largest batch, and one that has it rolls.
func TestRollGreatest(t *testing.T) {
	d := fresh(t)
	l, e := partlog.Open(d, "p", api.LogConfig{Roll: maxRoll, Step: maxStep})
	oks(t, e)
	large := ofSize(api.MaxBatch)
	for range maxRoll/api.MaxBatch - 1 {
		oks(t, appendError(l, large...))
	}
	oks(t, appendError(l, ofSize(api.MaxBatch-1)...), appendError(l, large...))
	if f, _ := d.File(nameOf(0)); f.Size != maxRoll-1+api.MaxBatch || l.State().Segments != 1 {
		t.Errorf("%v %v", f, l.State())
	}
	oks(t, appendError(l, one()))
	if l.State().Segments != 2 {
		t.Errorf("%v", l.State())
	}
}

// P11.2: what may not be is refused, by Fits's errors, ahead of the roll: nothing changes, and no step is done.
func TestAppendRefused(t *testing.T) {
	for n := range 2 { // the second one would roll
		d := fresh(t)
		l, p := both(t, d, usual)
		for range n {
			wantAppend(t, "ahead", l, d, p, one())
		}
		bad := []struct {
			records []api.Record
			e       api.Errno
		}{
			{nil, api.ErrArg},
			{[]api.Record{}, api.ErrArg},
			{[]api.Record{{Time: -1}}, api.ErrArg},
			{[]api.Record{one(), {Time: api.MaxTime + 1}}, api.ErrArg},
			{[]api.Record{{Time: math.MinInt64}, one()}, api.ErrArg},
			{[]api.Record{{Key: make([]byte, api.MaxKey+1)}}, api.ErrArg},
			{[]api.Record{{Value: make([]byte, api.MaxValue+1)}}, api.ErrArg},
			{append(make([]api.Record, api.MaxRecords), api.Record{Time: -1}), api.ErrArg},
			{make([]api.Record, api.MaxRecords+1), api.ErrLarge},
			{ofSize(api.MaxBatch + 1), api.ErrLarge},
		}
		for i, c := range bad {
			if e := wantAppend(t, "refused", l, d, p, c.records...); e != c.e {
				t.Errorf("%d: the plain one: %v", i, e)
			}
		}
		if s := l.State(); s.Dead || s.Segments != 1 || s.End != int64(n) {
			t.Errorf("%v", s)
		}
		oks(t, wantAppend(t, "all records", l, d, p, make([]api.Record, api.MaxRecords)...), wantAppend(t, "all bytes", l, d, p, ofSize(api.MaxBatch)...))
		oks(t, wantAppend(t, "greatest", l, d, p, api.Record{Time: api.MaxTime, Key: make([]byte, api.MaxKey), Value: make([]byte, api.MaxValue)}))
	}
}

// P11.2: offsets go up to MaxOffset; above it ErrLarge, behind Fits's errors, without a roll.
func TestAppendFar(t *testing.T) {
	for left := range int64(4) { // so many records have room
		for ahead := range left + 1 { // so many of them are there already: the next one would roll
			base := api.MaxOffset + 1 - left
			if base > api.MaxOffset {
				base-- // a segment's own base is an offset; one record fills it
				ahead = 1
			}
			var b []byte
			if ahead > 0 {
				b = batchBytes(batchesFrom(base, int(ahead))[0])
			}
			d := fresh(t)
			lay(t, d, nameOf(base), b)
			l, p := both(t, d, usual)
			room := int(api.MaxOffset + 1 - p.end())
			for _, n := range []int{room + 1, room + 2, 256} {
				if e := wantAppend(t, "too far", l, d, p, some(n, 1)...); e != api.ErrLarge {
					t.Errorf("%d of %d: %v", n, room, e)
				}
			}
			if e := wantAppend(t, "none", l, d, p); e != api.ErrArg {
				t.Errorf("none: %v", e)
			}
			if e := wantAppend(t, "one may not be", l, d, p, append(some(room, 1), api.Record{Time: -1})...); e != api.ErrArg {
				t.Errorf("one may not be: %v", e)
			}
			if room > 0 {
				oks(t, wantAppend(t, "all", l, d, p, some(room, 1)...))
			}
			want(t, "full", wantAppend(t, "full", l, d, p, one()), api.ErrLarge)
			wantSync(t, "full", l, d, p)
			if s := l.State(); s.End != api.MaxOffset+1 || s.Stands != s.End || s.Dead {
				t.Errorf("%v", s)
			}
			wantRead(t, "full", l, p, api.MaxOffset, api.MaxOffset+1, 9)
			wantRead(t, "full", l, p, api.MaxOffset+1, api.MaxOffset+1, 9)
			both(t, d, usual)
		}
	}
}

// errorOf is what a step with that fate answers.
func errorOf(f api.Fate) api.Errno {
	return []api.Errno{api.OK, api.ErrDisk, api.ErrFull}[f.Kind]
}

// P11.2: each step of an Append may fail, with any bytes kept: its error; the log is dead, and what was done ahead of it stays.
func TestAppendFails(t *testing.T) {
	for rolls := range 2 {
		for n := range 1 + 3*rolls {
			for keep := -1; keep < 45; keep++ {
				for _, bad := range []api.Fate{fail(keep), full(keep)} {
					d := fresh(t)
					l, p := both(t, d, api.LogConfig{Roll: 82, Step: 1})
					for range 1 + rolls {
						wantAppend(t, "ahead", l, d, p, one())
					}
					end := l.State().End
					feed(t, d, p, behind(n, bad)...)
					want(t, "fails", wantAppend(t, "fails", l, d, p, one()), errorOf(bad))
					wantState := api.LogState{End: end, Segments: 1, Dead: true}
					if n > 0 { // the sync for the roll went well
						wantState.Stands = end
					}
					if n > 1 { // the file was made
						wantState.Segments = 2
					}
					if l.State() != wantState {
						t.Errorf("step %d, %v: %v, want %v", n, bad, l.State(), wantState)
					}
					wantDead(t, l, d, p)
				}
			}
		}
	}
}

// wantDead asks a dead log to refuse all that would change it, and to go on telling; that does no step.
func wantDead(t *testing.T, l *partlog.Log, d *disk.Disk, p *plain) {
	t.Helper()
	was := d.Copy()
	if !l.State().Dead {
		t.Errorf("not dead: %v", l.State())
	}
	want(t, "dead: Append", appendError(l, one()), api.ErrDead)
	want(t, "dead: Append of none", appendError(l), api.ErrDead)
	want(t, "dead: Append of too many", appendError(l, make([]api.Record, 257)...), api.ErrDead)
	want(t, "dead: Sync", l.Sync(), api.ErrDead)
	want(t, "dead: Drop", dropError(l, math.MaxInt64), api.ErrDead)
	want(t, "dead: Drop of none", dropError(l, math.MinInt64), api.ErrDead)
	wantLog(t, "dead", l, d, p)
	for from := p.begin() - 1; from <= p.end()+1; from++ {
		wantRead(t, "dead", l, p, from, p.end(), 2)
	}
	wantRead(t, "dead", l, p, 0, 0, -1)
	wantUntouched(t, "dead", d, was)
}

// P11.2: disk's refusals for a roll, too: there are too many files.
func TestRollManyFiles(t *testing.T) {
	d := fresh(t)
	l, p := both(t, d, usual)
	wantAppend(t, "ahead", l, d, p, one())
	for i := range api.MaxFiles - 1 {
		name := "f" + digits(int64(i))
		oks(t, d.Create(name), p.disk.Create(name))
	}
	want(t, "many files", wantAppend(t, "many files", l, d, p, one()), api.ErrFull)
	if l.State() != (api.LogState{End: 1, Stands: 1, Segments: 1, Dead: true}) {
		t.Errorf("%v", l.State())
	}
	wantDead(t, l, d, p)
}

// P11.2: Sync lets all stand; of one that fails what stands is as before, whatever was kept.
func TestSync(t *testing.T) {
	for keep := -1; keep < 90; keep += 3 {
		for _, bad := range []api.Fate{fail(keep), full(keep)} {
			d := fresh(t)
			l, p := both(t, d, api.LogConfig{Roll: 4096, Step: 64})
			wantSync(t, "empty", l, d, p)
			for range 2 {
				wantAppend(t, "ahead", l, d, p, one())
				oks(t, wantSync(t, "ahead", l, d, p))
				if s := l.State(); s.Stands != s.End {
					t.Errorf("%v", s)
				}
			}
			wantAppend(t, "ahead", l, d, p, one(), one())
			feed(t, d, p, bad)
			want(t, "fails", wantSync(t, "fails", l, d, p), errorOf(bad))
			if l.State() != (api.LogState{End: 4, Stands: 2, Segments: 1, Dead: true}) {
				t.Errorf("%v", l.State())
			}
			wantDead(t, l, d, p)
		}
	}
}

// P11.2: what is handed in is not changed, spare room included, and not kept.
func TestAppendKeepsNothing(t *testing.T) {
	d := fresh(t)
	l, p := both(t, d, usual)
	records := append(make([]api.Record, 0, 4), some(2, 7)...)
	room := records[:4]
	room[2] = one()
	was := []api.Record{some(2, 7)[0], some(2, 7)[1], one(), {}}
	p.append(some(2, 7))
	oks(t, appendError(l, records...))
	if !sameRecords(room, was) {
		t.Error("changed")
	}
	for _, r := range room {
		clear(r.Key)
		clear(r.Value)
	}
	clear(room)
	wantLog(t, "not kept", l, d, p)
}
