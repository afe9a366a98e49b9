package partlog_test

import (
	"math"
	"slices"
	"testing"

	"millrace/api"
	"millrace/disk"
	"millrace/partlog"
)

// fiveParts is a log with the segments 0, 2, 4, 6, 8, of two records each, and the plain one.
func fiveParts(t *testing.T) (*partlog.Log, *disk.Disk, *plain) {
	t.Helper()
	d := fresh(t)
	l, p := both(t, d, usual)
	for i := range 5 {
		wantAppend(t, "ahead", l, d, p, some(2, 9*i)...)
	}
	return l, d, p
}

// P11.4: the first segments whose end is at most before go, and never the last one; two steps each.
func TestDrop(t *testing.T) {
	for _, c := range []struct {
		before int64
		n      int
	}{
		{math.MinInt64, 0}, {-1, 0}, {0, 0}, {1, 0}, {2, 1}, {3, 1}, {4, 2}, {7, 3}, {8, 4}, {9, 4}, {10, 4}, {11, 4}, {1 << 53, 4}, {math.MaxInt64, 4},
	} {
		l, d, p := fiveParts(t)
		was, _ := d.Steps()
		if n := wantDrop(t, "drops", l, d, p, c.before); n != c.n {
			t.Errorf("Drop(%d): %d, want %d", c.before, n, c.n)
		}
		if steps, _ := d.Steps(); steps-was != 2*c.n {
			t.Errorf("Drop(%d): %d steps", c.before, steps-was)
		}
		if s := l.State(); s != (api.LogState{Begin: int64(2 * c.n), End: 10, Stands: 8, Segments: 5 - c.n}) {
			t.Errorf("Drop(%d): %v", c.before, s)
		}
		if len(slices.Collect(d.All())) != 5-c.n {
			t.Errorf("Drop(%d): the disk has %v", c.before, slices.Collect(d.All()))
		}
		if n := wantDrop(t, "again", l, d, p, c.before); n != 0 {
			t.Errorf("Drop(%d) again: %d", c.before, n)
		}
		for from := range int64(11) {
			wantRead(t, "dropped", l, p, from, 10, 3)
		}
		wantSync(t, "goes on", l, d, p)
		wantAppend(t, "goes on", l, d, p, one())
		both(t, d, usual)
	}
}

// P11.4: a log of one segment keeps it, with records and without.
func TestDropOne(t *testing.T) {
	d := fresh(t)
	l, p := both(t, d, api.LogConfig{Roll: 4096, Step: 64})
	for range 3 {
		for _, before := range []int64{0, p.end(), p.end() + 1, math.MaxInt64} {
			if wantDrop(t, "one", l, d, p, before) != 0 {
				t.Error("dropped")
			}
		}
		wantAppend(t, "one", l, d, p, one())
	}
}

// P11.4: one by one, as far as before goes each time, while the log goes on.
func TestDropOneByOne(t *testing.T) {
	l, d, p := fiveParts(t)
	for i := range 8 {
		if n := wantDrop(t, "one", l, d, p, int64(2*i+2)); n != 1 {
			t.Errorf("Drop %d: %d", i, n)
		}
		wantAppend(t, "one", l, d, p, some(2, i)...)
	}
}

// P11.4: each step may fail, also behind segments that went well: the error, and 0; the log is dead; a segment whose file was removed is none.
func TestDropFails(t *testing.T) {
	for n := range 8 {
		for _, bad := range []api.Fate{fail(0), full(0), fail(50)} {
			l, d, p := fiveParts(t)
			feed(t, d, p, behind(n, bad)...)
			want(t, "Drop", dropError(l, 99), errorOf(bad))
			p.drop(99)
			gone := (n + 1) / 2
			if l.State() != (api.LogState{Begin: int64(2 * gone), End: 10, Stands: 8, Segments: 5 - gone, Dead: true}) {
				t.Errorf("step %d: %v", n, l.State())
			}
			wantDead(t, l, d, p)
			if back := slices.Collect(d.All()); len(back) != 5-gone+n%2 { // the sync failed: it may come back
				t.Errorf("step %d: the disk has %v", n, back)
			}
		}
	}
}

// P11.4: Check's errors come in the order of Open's; it does no step.
func TestCheckRefused(t *testing.T) {
	for what, d := range noDisks() {
		want(t, what, checkError(d, "p"), api.ErrNil)
		want(t, what+", no name", checkError(d, "P"), api.ErrNil)
	}
	d := fresh(t)
	lay(t, d, nameOf(0), []byte("corrupt"))
	was := d.Copy()
	for _, name := range badNames() {
		want(t, name, checkError(d, name), api.ErrArg)
	}
	want(t, "corrupt", checkError(d, "p"), api.ErrCorrupt)
	wantUntouched(t, "Check", d, was)
}

// P11.4: without a segment: no records, 1 segment; nothing is made. Fates are not taken, and do not make it fail.
func TestCheckNone(t *testing.T) {
	d := fresh(t, fail(0), fail(0))
	wantCheck(t, "none", d, api.LogState{Segments: 1}, api.OK)
	if len(d.Names()) != 0 {
		t.Error(d.Names())
	}
	want(t, "Open", openError(d, "p", usual), api.ErrDisk)
}

// P11.4: the state behind Open: all stands, nothing is dead, what is torn is not counted, and not cut.
func TestCheckState(t *testing.T) {
	d := fresh(t)
	l, p := both(t, d, usual)
	for i := range 4 {
		wantAppend(t, "ahead", l, d, p, some(2, i)...)
	}
	wantDrop(t, "ahead", l, d, p, 2)
	wantCheck(t, "not synced", d, api.LogState{Begin: 2, End: 8, Stands: 8, Segments: 3}, api.OK)
	feed(t, d, p, behind(3, fail(7))...)
	want(t, "torn", wantAppend(t, "torn", l, d, p, one()), api.ErrDisk)
	oks(t, d.Feed(fail(0)))
	wantCheck(t, "torn", d, api.LogState{Begin: 2, End: 8, Stands: 8, Segments: 4}, api.OK)
	if f, _ := d.File(nameOf(8)); f.Size != 7 {
		t.Error(f)
	}
}
