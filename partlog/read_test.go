package partlog_test

import (
	"math"
	"slices"
	"testing"

	"millrace/api"
	"millrace/partlog"
)

// P11.1 to P11.4: of no log: ErrNil, whatever is handed in, and zeros.
func TestNone(t *testing.T) {
	for what, l := range nones() {
		for _, records := range [][]api.Record{nil, {one()}, {{Time: -1}}, make([]api.Record, 300)} {
			want(t, what+": Append", appendError(l, records...), api.ErrNil)
		}
		want(t, what+": Sync", l.Sync(), api.ErrNil)
		for _, n := range []int64{math.MinInt64, -1, 0, 1, math.MaxInt64} {
			want(t, what+": Drop", dropError(l, n), api.ErrNil)
			for _, most := range []int{-1, 0, 1} {
				if x, e := l.Read(n, n, most); x != nil || e != api.ErrNil {
					t.Errorf("%s: Read: %v %v", what, x, e)
				}
			}
		}
		if l.State() != (api.LogState{}) || l.Segments() != nil {
			t.Errorf("%s: %v %v", what, l.State(), l.Segments())
		}
		all := l.All()
		if all == nil {
			t.Fatalf("%s: All is none", what)
		}
		wantAll(t, what, all, 0, nil)
	}
}

// rolled is a log with several segments, from offset 3 on if it was dropped, and the plain one.
func rolled(t *testing.T, dropped bool) (*partlog.Log, *plain) {
	t.Helper()
	d := fresh(t)
	l, p := both(t, d, api.LogConfig{Roll: 60, Step: 30})
	for i, n := range []int{1, 2, 3, 1, 1, 1, 2} {
		wantAppend(t, "ahead", l, d, p, some(n, 20*i)...)
	}
	if dropped {
		wantDrop(t, "ahead", l, d, p, 3)
	}
	if len(p.parts) < 3 || (p.begin() == 3) != dropped {
		t.Fatalf("%v", p.state())
	}
	return l, p
}

// P11.3: Read from each offset until each, at most so many; ErrArg ahead of ErrRange.
func TestRead(t *testing.T) {
	for _, dropped := range []bool{false, true} {
		l, p := rolled(t, dropped)
		offsets := []int64{math.MinInt64, -1, math.MaxInt64, math.MaxInt64 - 1, 1 << 53}
		for i := range p.end() + 3 {
			offsets = append(offsets, i)
		}
		for _, from := range offsets {
			for _, until := range offsets {
				for _, most := range []int{math.MinInt, -1, 0, 1, 2, 3, 4, 7, 11, math.MaxInt} {
					wantRead(t, "each", l, p, from, until, most)
				}
			}
		}
		if x, e := l.Read(p.begin(), p.end(), math.MaxInt); int64(len(x)) != p.end()-p.begin() || e != api.OK {
			t.Errorf("%d %v", len(x), e)
		}
	}
}

// P11.3: of a log without records, and of one whose active segment is empty.
func TestReadEmpty(t *testing.T) {
	d := fresh(t)
	l, p := both(t, d, usual)
	for _, from := range []int64{-1, 0, 1} {
		for _, until := range []int64{-1, 0, 1} {
			wantRead(t, "empty", l, p, from, until, 9)
		}
	}
	lay(t, d, nameOf(7), nil)
	oks(t, d.Remove(nameOf(0)), d.SyncDir())
	l, p = both(t, d, usual)
	for from := int64(5); from < 9; from++ {
		for until := int64(5); until < 9; until++ {
			wantRead(t, "empty, from 7 on", l, p, from, until, 9)
		}
	}

	d = fresh(t)
	l, p = both(t, d, usual)
	wantAppend(t, "ahead", l, d, p, some(2, 3)...)
	feed(t, d, p, behind(2, fail(0))...)
	want(t, "roll", wantAppend(t, "roll", l, d, p, one()), api.ErrDisk)
	if len(p.parts) != 2 || p.end() != 2 {
		t.Fatal(p.state())
	}
	for from := range int64(4) {
		for until := range int64(4) {
			wantRead(t, "the active one empty", l, p, from, until, 9)
		}
	}
}

// P11.3: what does not stand yet is read, too.
func TestReadAheadOfSync(t *testing.T) {
	d := fresh(t)
	l, p := both(t, d, api.LogConfig{Roll: 4096, Step: 64})
	wantAppend(t, "not synced", l, d, p, some(5, 1)...)
	if l.State().Stands != 0 {
		t.Error(l.State())
	}
	wantRead(t, "not synced", l, p, 1, 5, 9)
}

// P11.3: All goes over the records as they are when it is called, whatever becomes of the log then, as often as one likes.
func TestAllStays(t *testing.T) {
	d := fresh(t)
	l, p := both(t, d, usual)
	before := l.All()
	wantAll(t, "none", before, 0, nil)
	for i := range 4 {
		wantAppend(t, "ahead", l, d, p, some(2, 9*i)...)
	}
	all, was, names := l.All(), p.records(), l.Segments()
	wantAll(t, "at once", all, 0, was)
	wantAppend(t, "then", l, d, p, some(3, 77)...)
	wantAll(t, "appended behind it", all, 0, was)
	wantDrop(t, "then", l, d, p, 6)
	wantAll(t, "dropped", all, 0, was)
	wantAll(t, "dropped, again", all, 0, was)
	wantAll(t, "none still", before, 0, nil)
	feed(t, d, p, fail(5))
	wantSync(t, "then", l, d, p)
	wantAll(t, "dead", all, 0, was)
	if !slices.Equal(names, []string{nameOf(0), nameOf(2), nameOf(4), nameOf(6)}) {
		t.Errorf("Segments has changed: %v", names)
	}
}

// P11.3: All may be left at any record, in any segment, and gone through again.
func TestAllLeft(t *testing.T) {
	for _, dropped := range []bool{false, true} {
		l, p := rolled(t, dropped)
		all := l.All()
		for stop := range len(p.records()) {
			n := 0
			for at, r := range all {
				if at != p.begin()+int64(n) || !sameRecord(r, p.records()[n]) {
					t.Fatalf("number %d: %d", n, at)
				}
				if n == stop {
					break
				}
				n++
			}
			if n != stop {
				t.Errorf("%d, want %d", n, stop)
			}
		}
		wantAll(t, "behind all that", all, p.begin(), p.records())
	}
}

// spoil writes over all bytes of records, spare room included.
func spoil(l []api.Record) {
	l = l[:cap(l)]
	for i, r := range l {
		key, value := r.Key[:cap(r.Key)], r.Value[:cap(r.Value)]
		for j := range key {
			key[j] = 0xee
		}
		for j := range value {
			value[j] = 0xee
		}
		l[i] = api.Record{Time: -7}
	}
}

// P11.3: answers are new memory: nothing that is done to one is seen in another, in itself, or in the log.
func TestNewMemory(t *testing.T) {
	l, p := rolled(t, false)
	records := p.records()
	x, _ := l.Read(0, p.end(), 99)
	y, _ := l.Read(0, p.end(), 99)
	spoil(x[:1])
	if !sameRecords(y, records) {
		t.Error("another Read")
	}
	for i := range y {
		key, value := y[i].Key[:cap(y[i].Key)], y[i].Value[:cap(y[i].Value)]
		for j := range key {
			key[j] = 0xee
		}
		if !slices.Equal(y[i].Value, records[i].Value) {
			t.Errorf("%d: a key shares its room with its value", i)
		}
		for j := range value {
			value[j] = 0xee
		}
		if !sameRecords(y[i+1:], records[i+1:]) {
			t.Errorf("%d: a record shares its room with another", i)
		}
	}
	all := l.All()
	for _, r := range all {
		spoil([]api.Record{r})
	}
	wantAll(t, "gone through again", all, 0, records)
	wantAll(t, "another", l.All(), 0, records)
	names := l.Segments()
	clear(names[:cap(names)])
	if !slices.Equal(l.Segments(), p.names()) {
		t.Error("Segments")
	}
	s := l.State()
	s.End = 99
	if l.State() != p.state() {
		t.Error("State")
	}
	wantRead(t, "in the end", l, p, 0, p.end(), 99)
}
