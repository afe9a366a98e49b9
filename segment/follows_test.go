package segment_test

import (
	"math/rand"
	"slices"
	"testing"

	"millrace/api"
	"millrace/disk"
	"millrace/segment"
	"millrace/stops"
)

// wantBehindCrash asks for what P10.5 says of a disk that a crash left: p is all that was appended, or begun to be, of which synced batches were synced. It answers the segment, and what it has; nil, if its name is not there.
func wantBehindCrash(t *testing.T, o *disk.Disk, p *plain, synced int) (*segment.Segment, *plain) {
	t.Helper()
	name := nameOf(t, "p", p.base)
	if !slices.Contains(o.Names(), name) {
		want(t, "gone", lookError(o, name), api.ErrNone)
		return nil, nil
	}
	f, e := segment.Look(o, name)
	if e != api.OK || f.Why != api.ErrEnd && f.Why != api.ErrTorn {
		t.Fatalf("P10.5: Look: %v %v", f, e)
	}
	if f.Batches < synced || f.Batches > len(p.batches) {
		t.Fatalf("P10.5: %d batches of %d, of which %d were synced", f.Batches, len(p.batches), synced)
	}
	left := &plain{base: p.base, step: p.step, batches: slices.Clone(p.batches[:f.Batches])}
	if f.End != left.end() || f.Size != len(left.bytes()) {
		t.Fatalf("P10.5: %v, want %d, %d", f, left.end(), len(left.bytes()))
	}
	if f.Why == api.ErrTorn {
		want(t, "torn", openError(o, name, p.step), api.ErrTorn)
	}
	for range 2 {
		if got, e := segment.Mend(o, name); got != f || e != api.OK {
			t.Fatalf("P10.5: Mend: %v %v, want %v", got, e, f)
		}
		wantFile(t, "P10.5: behind Mend", o, name, left.bytes(), f.Size)
		f.Why = api.ErrEnd
		wantFound(t, "P10.5: behind Mend", o, name, f)
	}
	s, e := segment.Open(o, name, p.step)
	oks(t, e)
	wantSegment(t, "P10.5: opened", s, left)
	return s, left
}

// wantAllCrashes goes all ways of a crash, and answers how many there are.
func wantAllCrashes(t *testing.T, d *disk.Disk, p *plain, synced int) int {
	t.Helper()
	n := 0
	for _, o := range stops.Images(d) {
		wantBehindCrash(t, o, p, synced)
		n++
		if t.Failed() {
			t.FailNow()
		}
	}
	return n
}

// P10.5: each way of a crash, with none, some and all batches synced, the name lasting or not.
func TestCrashes(t *testing.T) {
	for synced := range 4 {
		for _, named := range []bool{true, false} {
			d := fresh(t)
			s, p := created(t, d, 5, 40)
			if named {
				oks(t, d.SyncDir())
			}
			lasts := 0
			for i := range 4 {
				if i == synced {
					oks(t, s.Sync())
					lasts = len(p.bytes())
				}
				if i < 3 {
					oks(t, s.Append(p.add(some(1+i, 20*i)...)))
				}
			}
			ways := len(p.bytes()) - lasts + 1
			if !named {
				ways++
			}
			if n := wantAllCrashes(t, d, p, synced); n != ways {
				t.Errorf("%d ways, want %d", n, ways)
			}
		}
	}
}

// P10.5: the example of the whole: a batch of one record that is not synced leaves 34 ways, of which only the last one has it.
func TestCrashAheadOfSync(t *testing.T) {
	d := fresh(t)
	s, p := created(t, d, 0, 64)
	oks(t, d.SyncDir(), s.Append(p.add(rec(1, "k", ""))))
	var has []bool
	for _, o := range stops.Images(d) {
		_, left := wantBehindCrash(t, o, p, 0)
		has = append(has, len(left.batches) == 1)
	}
	if len(has) != 34 || slices.Index(has, true) != 33 {
		t.Error(has)
	}
	oks(t, s.Sync())
	if n := wantAllCrashes(t, d, p, 1); n != 1 {
		t.Error(n)
	}
}

// P10.5: an Append that failed has left some of its bytes; so has a Sync let some last.
func TestCrashBehindFault(t *testing.T) {
	for keep := range 40 {
		d := fresh(t)
		s, p := filled(t, d, 5, 40, 2)
		oks(t, s.Sync(), d.SyncDir(), s.Append(p.add(some(1, 20)...)), d.Feed(fail(keep)))
		want(t, "Sync", s.Sync(), api.ErrDisk)
		wantAllCrashes(t, d, p, 1)
		oks(t, d.Feed(full(keep)))
		want(t, "Append", s.Append(p.add(some(1, 40)...)), api.ErrFull)
		wantAllCrashes(t, d, p, 1)
		oks(t, s.Sync())
		wantAllCrashes(t, d, p, 2)
	}
}

// P10.5: a file that was removed comes back with what was synced, or not at all.
func TestCrashBehindRemove(t *testing.T) {
	d := fresh(t)
	s, p := filled(t, d, 5, 40, 2, 1)
	oks(t, s.Sync(), d.SyncDir(), s.Append(p.add(some(1, 20)...)), d.Remove("p-00000000000005"))
	if n := wantAllCrashes(t, d, p, 2); n != 2 {
		t.Error(n)
	}
}

// P10.5, P0.2: a segment that goes on behind each of many crashes: what was synced stays as it was, where it was; behind it nothing but batches that were appended.
func TestCrashesDrawn(t *testing.T) {
	r := rand.New(rand.NewSource(105))
	torn := 0
	for range 150 {
		d := fresh(t)
		s, p := created(t, d, int64(r.Intn(9)), 1+r.Intn(200))
		oks(t, d.SyncDir())
		synced := 0
		for range 6 {
			synced = drawnSteps(t, r, d, s, p, synced)
			if r.Intn(4) == 0 {
				wantAllCrashes(t, d, p, synced)
			}
			o := crashed(t, d, r.Intn(1000))
			if f, _ := segment.Look(o, nameOf(t, "p", p.base)); f.Why == api.ErrTorn {
				torn++
			}
			d = o
			s, p = wantBehindCrash(t, d, p, synced)
			if s == nil {
				t.Fatal("its name lasted")
			}
			synced = len(p.batches)
		}
	}
	if torn < 100 {
		t.Errorf("torn %d times", torn)
	}
}

// drawnSteps appends and syncs, the last Append at times with a fault; it answers how many batches were synced.
func drawnSteps(t *testing.T, r *rand.Rand, d *disk.Disk, s *segment.Segment, p *plain, synced int) int {
	t.Helper()
	for range r.Intn(6) {
		switch r.Intn(4) {
		case 0:
			oks(t, s.Sync())
			synced = len(p.batches)
		case 1:
			oks(t, d.Feed(fail(r.Intn(50))))
			want(t, "Sync", s.Sync(), api.ErrDisk)
		default:
			oks(t, s.Append(p.add(some(1+r.Intn(3), r.Intn(1000))...)))
		}
		wantSegment(t, "drawn", s, p)
	}
	if r.Intn(3) == 0 {
		oks(t, d.Feed(fail(r.Intn(60))))
		want(t, "Append", s.Append(p.add(some(1+r.Intn(3), r.Intn(1000))...)), api.ErrDisk)
	}
	return synced
}
