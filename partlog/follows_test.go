package partlog_test

import (
	"math/rand"
	"slices"
	"testing"

	"millrace/api"
	"millrace/disk"
	"millrace/partlog"
	"millrace/segment"
	"millrace/stops"
)

// story is a log, the plain one, and what P11.5 lets come behind a crash: all batches that were appended, or begun to be, since the beginning; and the begins that there may be, more than one if a removed file may come back.
type story struct {
	config  api.LogConfig
	disk    *disk.Disk
	log     *partlog.Log
	plain   *plain
	batches []api.Batch
	begins  []int64
}

// begun opens a log on a disk. It answers nil, if a step fails.
func begun(t *testing.T, d *disk.Disk, c api.LogConfig, batches []api.Batch) *story {
	t.Helper()
	p, wantE := openPlain(d.Copy(), "p", c)
	l, e := partlog.Open(d, "p", c)
	want(t, "Open", e, wantE)
	if e != api.OK || wantE != api.OK {
		return nil
	}
	wantLog(t, "opened", l, d, p)
	return &story{config: c, disk: d, log: l, plain: p, batches: batches, begins: []int64{p.begin()}}
}

func (s *story) append(t *testing.T, records ...api.Record) {
	t.Helper()
	if at := s.plain.end(); !s.plain.dead {
		s.batches = append(s.batches, api.Batch{Base: at, Records: records})
	}
	wantAppend(t, "story", s.log, s.disk, s.plain, records...)
}

func (s *story) sync(t *testing.T) {
	t.Helper()
	wantSync(t, "story", s.log, s.disk, s.plain)
}

func (s *story) drop(t *testing.T, before int64) {
	t.Helper()
	was, dead := s.plain.parts, s.plain.dead
	wantDrop(t, "story", s.log, s.disk, s.plain, before)
	if dead {
		return
	}
	s.begins = []int64{s.plain.begin()}
	for _, x := range was {
		if f, e := s.disk.File(x.name); e == api.OK && !f.There {
			s.begins = append(s.begins, x.base)
		}
	}
	if len(s.begins) > 2 {
		t.Fatalf("more than one may come back: %v", s.begins)
	}
}

// wantBehindCrash asks a disk that a crash left for what P11.5 says, and answers the story that goes on there.
func (s *story) wantBehindCrash(t *testing.T, o *disk.Disk) *story {
	t.Helper()
	state, e := partlog.Check(o, "p")
	want(t, "P11.5: Check", e, api.OK)
	l, e := partlog.Open(o.Copy(), "p", s.config)
	if e != api.OK || l.State() != state {
		t.Fatalf("P11.5: Open: %v %v, Check: %v", e, l.State(), state)
	}
	if state.Dead || state.Stands != state.End || state.End < s.plain.stands || !slices.Contains(s.begins, state.Begin) {
		t.Fatalf("P11.5: %v, ahead of the crash %v, begins %v", state, s.plain.state(), s.begins)
	}
	var left []api.Batch
	var records []api.Record
	for _, b := range s.batches {
		if b.Base < state.End {
			left = append(left, b)
			if b.Base >= state.Begin {
				records = append(records, b.Records...)
			}
		}
	}
	// Were a batch not whole, there would be fewer records than those of all batches that begin below the end.
	wantAll(t, "P11.5", l.All(), state.Begin, records)
	if state.Begin+int64(len(records)) != state.End {
		t.Fatalf("P11.5: %d records from %d to %d", len(records), state.Begin, state.End)
	}
	next := begun(t, o, s.config, left)
	wantChain(t, o, next.log)
	return next
}

// wantChain asks for segments each of whose bases is the end of the one ahead.
func wantChain(t *testing.T, d *disk.Disk, l *partlog.Log) {
	t.Helper()
	at := l.State().Begin
	for _, name := range l.Segments() {
		f, e := segment.Look(d, name)
		_, base, ok := segment.Parse(name)
		if e != api.OK || !ok || base != at || f.Why != api.ErrEnd {
			t.Fatalf("P11.5: %s: from %d on, want %d, %v %v", name, base, at, f, e)
		}
		at = f.End
	}
	if at != l.State().End {
		t.Fatalf("P11.5: the end is %d, want %d", at, l.State().End)
	}
}

// wantAllCrashes goes all ways of a crash, and answers how many there are.
func (s *story) wantAllCrashes(t *testing.T) int {
	t.Helper()
	n := 0
	for _, o := range stops.Images(s.disk) {
		s.wantBehindCrash(t, o)
		n++
		if t.Failed() {
			t.FailNow()
		}
	}
	return n
}

// acts are what a short story does, one behind the other: it rolls at the third, the fifth and the eighth.
func acts() []func(*testing.T, *story) {
	appends := func(n int) func(*testing.T, *story) {
		return func(t *testing.T, s *story) { s.append(t, some(n, 13*len(s.batches))...) }
	}
	syncs := func(t *testing.T, s *story) { s.sync(t) }
	return []func(*testing.T, *story){
		appends(1), appends(2), appends(1), appends(2), appends(2), syncs,
		func(t *testing.T, s *story) { s.drop(t, 3) },
		appends(1), appends(3), syncs,
		func(t *testing.T, s *story) { s.drop(t, 99) },
		appends(2),
	}
}

// P11.5: a short story that stops behind each of its acts; all ways of a crash there.
func TestCrashes(t *testing.T) {
	ways := 0
	for stop := range len(acts()) + 1 {
		s := begun(t, fresh(t), api.LogConfig{Roll: 60, Step: 30}, nil)
		for _, act := range acts()[:stop] {
			act(t, s)
		}
		ways += s.wantAllCrashes(t)
	}
	if ways < 400 {
		t.Errorf("just %d ways", ways)
	}
}

// P11.5: the same with each of its steps failing, with none, some and all bytes kept; all ways of a crash in the end.
func TestCrashesBehindFaults(t *testing.T) {
	for _, bad := range []api.Fate{fail(0), full(10), fail(50), fail(1000)} {
		for n := 0; ; n++ {
			s := begun(t, fresh(t, good(), good()), api.LogConfig{Roll: 60, Step: 30}, nil)
			feed(t, s.disk, s.plain, behind(n, bad)...)
			for _, act := range acts() {
				act(t, s)
			}
			if _, left := s.disk.Steps(); left > 0 {
				if n < 25 {
					t.Errorf("just %d steps", n)
				}
				break
			}
			if !s.plain.dead {
				t.Fatalf("step %d did not fail", n)
			}
			s.wantAllCrashes(t)
		}
	}
}

// P11.5: Open's own steps fail, or a crash comes behind each of them: the next Open goes well.
func TestCrashesInOpen(t *testing.T) {
	for _, keep := range []int{0, 3, 99} {
		for n := range 2 { // of a new log
			d := fresh(t, behind(n, fail(keep))...)
			want(t, "Open", openError(d, "p", usual), api.ErrDisk)
			for _, o := range stops.Images(d) {
				l, e := partlog.Open(o, "p", usual)
				if e != api.OK || l.State() != (api.LogState{Segments: 1}) {
					t.Fatalf("%v %v", e, l.State())
				}
			}
		}
		for n := range 3 { // of one that is torn
			s := begun(t, fresh(t), api.LogConfig{Roll: 60, Step: 30}, nil)
			for _, act := range acts()[:5] {
				act(t, s)
			}
			feed(t, s.disk, s.plain, fail(40))
			s.append(t, some(2, 99)...)
			oks(t, s.disk.Feed(behind(n, fail(keep))...))
			want(t, "Open", openError(s.disk, "p", s.config), api.ErrDisk)
			s.wantAllCrashes(t)
		}
	}
}

// P11.5: a removed segment whose directory was not synced comes back, or not, and never without the next.
func TestCrashBehindDrop(t *testing.T) {
	for n := range 3 {
		s := begun(t, fresh(t), usual, nil)
		for i := range 5 {
			s.append(t, some(2, i)...)
		}
		s.sync(t)
		feed(t, s.disk, s.plain, behind(2*n+1, fail(0))...)
		s.drop(t, 99)
		if !slices.Equal(s.begins, []int64{int64(2*n + 2), int64(2 * n)}) {
			t.Fatal(s.begins)
		}
		if ways := s.wantAllCrashes(t); ways != 2 {
			t.Errorf("%d ways", ways)
		}
	}
}

// P11.5: drawn stories over many crashes, with drawn fates, configurations and ways of each crash.
func TestDrawnStories(t *testing.T) {
	r := rand.New(rand.NewSource(1105))
	died, torn := 0, 0
	for range 150 {
		c := api.LogConfig{Roll: 1 + r.Intn(200), Step: 1 + r.Intn(100)}
		bad := []float64{0, 0.02, 0.1}[r.Intn(3)]
		s := begun(t, fresh(t), c, nil)
		for range 8 {
			for range r.Intn(12) {
				feed(t, s.disk, s.plain, drawnFate(r, bad))
				s.drawnAct(t, r)
			}
			if s.plain.dead {
				died++
			}
			n, e := stops.Count(s.disk)
			oks(t, e)
			way, e := stops.At(s.disk, r.Int63n(n))
			oks(t, e)
			o, e := s.disk.Crash(way)
			oks(t, e)
			if _, wasTorn, _ := lookPlain(o, "p"); wasTorn {
				torn++
			}
			s = s.wantBehindCrash(t, o)
			if t.Failed() {
				t.FailNow()
			}
		}
	}
	if died < 50 || torn < 50 {
		t.Errorf("just %d died, %d were torn", died, torn)
	}
}

// drawnAct appends mostly, good records mostly.
func (s *story) drawnAct(t *testing.T, r *rand.Rand) {
	t.Helper()
	switch r.Intn(8) {
	case 0, 1:
		s.sync(t)
	case 2:
		s.drop(t, s.plain.begin()-2+r.Int63n(s.plain.end()-s.plain.begin()+4))
	case 3:
		wantAppend(t, "refused", s.log, s.disk, s.plain, api.Record{Time: -1})
	case 4:
		begin, end := s.plain.begin(), s.plain.end()
		wantRead(t, "story", s.log, s.plain, begin-1+r.Int63n(end-begin+3), begin-1+r.Int63n(end-begin+3), r.Intn(9)-1)
	default:
		s.append(t, some(1+r.Intn(4), r.Intn(1<<16))...)
	}
}
