package partlog_test

import (
	"bytes"
	"fmt"
	"iter"
	"math"
	"math/rand"
	"slices"
	"testing"

	"millrace/api"
	"millrace/disk"
	"millrace/partlog"
)

// The greatest numbers of a configuration.
const (
	maxRoll = 1<<24 - 65536
	maxStep = 1 << 24
)

func good() api.Fate         { return api.Fate{} }
func fail(keep int) api.Fate { return api.Fate{Kind: api.FateFail, Keep: keep} }
func full(keep int) api.Fate { return api.Fate{Kind: api.FateFull, Keep: keep} }

// behind is that fate, behind so many good ones.
func behind(n int, f api.Fate) []api.Fate { return append(make([]api.Fate, n), f) }

func rec(time int64, key, value string) api.Record {
	return api.Record{Time: time, Key: []byte(key), Value: []byte(value)}
}

// one is a record of 21 bytes, of which a batch alone has 41.
func one() api.Record { return rec(1, "abc", "defghi") }

// some are records, each unlike the others, and unlike those of another first one.
func some(n, first int) []api.Record {
	var l []api.Record
	for i := range n {
		l = append(l, rec(int64(first+i), "k", string([]byte{byte(i), byte(first), byte(first >> 8)})))
	}
	return l
}

// ofSize are records whose batch has that many bytes.
func ofSize(n int) []api.Record {
	const most = 12 + api.MaxKey + api.MaxValue
	var l []api.Record
	n -= 20
	for n > most {
		l = append(l, sized(min(most, n-12)))
		n -= min(most, n-12)
	}
	return append(l, sized(n))
}

// sized is a record of that many bytes.
func sized(n int) api.Record {
	key := min(n-12, api.MaxKey)
	return api.Record{Time: 3, Key: bytes.Repeat([]byte{'k'}, key), Value: bytes.Repeat([]byte{'v'}, n-12-key)}
}

// oks fails if one is an error.
func oks(t *testing.T, l ...api.Errno) {
	t.Helper()
	for i, e := range l {
		if e != api.OK {
			t.Fatalf("call %d: %v", i, e)
		}
	}
}

// want asks for an answer.
func want(t *testing.T, what string, got, want api.Errno) {
	t.Helper()
	if got != want {
		t.Errorf("%s: %v, want %v", what, got, want)
	}
}

func fresh(t *testing.T, fates ...api.Fate) *disk.Disk {
	t.Helper()
	d, e := disk.New(fates...)
	oks(t, e)
	return d
}

// nameOf is the name of a segment of the log p, by chapter 10's words.
func nameOf(base int64) string { return fmt.Sprintf("p-%014x", base) }

// lay puts a file with these bytes on a disk; all of it lasts.
func lay(t *testing.T, d *disk.Disk, name string, b []byte) {
	t.Helper()
	oks(t, d.Create(name), d.Append(name, b), d.Sync(name), d.SyncDir())
}

// both are a log of the name p and the plain one that it is as, each opened on a disk of its own, that stands as d does.
func both(t *testing.T, d *disk.Disk, c api.LogConfig) (*partlog.Log, *plain) {
	t.Helper()
	p, e := openPlain(d.Copy(), "p", c)
	oks(t, e)
	l, e := partlog.Open(d, "p", c)
	if l == nil || e != api.OK {
		t.Fatalf("Open: %v", e)
	}
	wantLog(t, "opened", l, d, p)
	return l, p
}

// feed lets the same fates come to both disks.
func feed(t *testing.T, d *disk.Disk, p *plain, fates ...api.Fate) {
	t.Helper()
	oks(t, d.Feed(fates...), p.disk.Feed(fates...))
}

// wantAppend asks Append for what the plain one answers, and both for what they are then.
func wantAppend(t *testing.T, what string, l *partlog.Log, d *disk.Disk, p *plain, records ...api.Record) api.Errno {
	t.Helper()
	wantAt, wantE := p.append(records)
	if at, e := l.Append(records...); at != wantAt || e != wantE {
		t.Errorf("%s: Append of %d: %d %v, want %d %v", what, len(records), at, e, wantAt, wantE)
	}
	wantLog(t, what, l, d, p)
	return wantE
}

// wantSync is wantAppend of Sync.
func wantSync(t *testing.T, what string, l *partlog.Log, d *disk.Disk, p *plain) api.Errno {
	t.Helper()
	e := p.sync()
	want(t, what+": Sync", l.Sync(), e)
	wantLog(t, what, l, d, p)
	return e
}

// wantDrop is wantAppend of Drop.
func wantDrop(t *testing.T, what string, l *partlog.Log, d *disk.Disk, p *plain, before int64) int {
	t.Helper()
	wantN, wantE := p.drop(before)
	if n, e := l.Drop(before); n != wantN || e != wantE {
		t.Errorf("%s: Drop(%d): %d %v, want %d %v", what, before, n, e, wantN, wantE)
	}
	wantLog(t, what, l, d, p)
	return wantN
}

// wantLog asks all calls that tell of a log for what the plain one is, and its disk for what the plain one's steps made of its own.
func wantLog(t *testing.T, what string, l *partlog.Log, d *disk.Disk, p *plain) {
	t.Helper()
	if got := l.State(); got != p.state() {
		t.Errorf("%s: State: %v, want %v", what, got, p.state())
	}
	if got := l.Segments(); !slices.Equal(got, p.names()) {
		t.Errorf("%s: Segments: %v, want %v", what, got, p.names())
	}
	wantAll(t, what, l.All(), p.begin(), p.records())
	wantRead(t, what, l, p, p.begin(), p.end(), math.MaxInt)
	steps, left := d.Steps()
	if n, m := p.disk.Steps(); n != steps || m != left {
		t.Errorf("%s: %d steps, %d fates left, want %d, %d", what, steps, left, n, m)
	}
	if !d.Same(p.disk) {
		t.Errorf("%s: the disk has %v, want %v", what, slices.Collect(d.All()), slices.Collect(p.disk.All()))
	}
}

// wantAll asks an iterator for these records, one behind the other.
func wantAll(t *testing.T, what string, all iter.Seq2[int64, api.Record], begin int64, records []api.Record) {
	t.Helper()
	i := 0
	for at, r := range all {
		if i >= len(records) || at != begin+int64(i) || !sameRecord(r, records[i]) {
			t.Fatalf("%s: All: number %d at %d: %v, of %d", what, i, at, r, len(records))
		}
		i++
	}
	if i != len(records) {
		t.Errorf("%s: All: %d records, want %d", what, i, len(records))
	}
}

// wantRead asks Read for what the plain one reads.
func wantRead(t *testing.T, what string, l *partlog.Log, p *plain, from, until int64, most int) {
	t.Helper()
	want, wantE := p.read(from, until, most)
	if got, e := l.Read(from, until, most); !sameRecords(got, want) || e != wantE || e != api.OK && got != nil {
		t.Errorf("%s: Read(%d, %d, %d): %d records, %v, want %d, %v", what, from, until, most, len(got), e, len(want), wantE)
	}
}

// wantCheck asks Check for a state or an error, and that it does no step.
func wantCheck(t *testing.T, what string, d *disk.Disk, state api.LogState, e api.Errno) {
	t.Helper()
	was := d.Copy()
	if got, gotE := partlog.Check(d, "p"); got != state || gotE != e {
		t.Errorf("%s: Check: %v %v, want %v %v", what, got, gotE, state, e)
	}
	wantUntouched(t, what+": Check", d, was)
}

// wantUntouched asks a disk to be as it was, without another step.
func wantUntouched(t *testing.T, what string, d, was *disk.Disk) {
	t.Helper()
	n, left := d.Steps()
	if m, wasLeft := was.Steps(); n != m || left != wasLeft || !d.Same(was) {
		t.Errorf("%s: steps were done: %d, not %d", what, n, m)
	}
}

// openError is what Open answers; -1 where a log stands beside an error, or none beside none.
func openError(d *disk.Disk, name string, c api.LogConfig) api.Errno {
	if l, e := partlog.Open(d, name, c); (e != api.OK) == (l == nil) {
		return e
	}
	return -1
}

// checkError is what Check answers; -1 where a state stands beside an error.
func checkError(d *disk.Disk, name string) api.Errno {
	s, e := partlog.Check(d, name)
	if e != api.OK && s != (api.LogState{}) {
		return -1
	}
	return e
}

// appendError and dropError are what these answer; -1 where a number stands beside an error.
func appendError(l *partlog.Log, records ...api.Record) api.Errno {
	at, e := l.Append(records...)
	if e != api.OK && at != 0 {
		return -1
	}
	return e
}

func dropError(l *partlog.Log, before int64) api.Errno {
	n, e := l.Drop(before)
	if e != api.OK && n != 0 {
		return -1
	}
	return e
}

func sameRecord(a, b api.Record) bool {
	return a.Time == b.Time && bytes.Equal(a.Key, b.Key) && bytes.Equal(a.Value, b.Value)
}

func sameRecords(a, b []api.Record) bool { return slices.EqualFunc(a, b, sameRecord) }

// noDisks are a nil disk and a zero one.
func noDisks() map[string]*disk.Disk { return map[string]*disk.Disk{"nil": nil, "zero": {}} }

// nones are a nil log, a zero one, and one whose Open refused.
func nones() map[string]*partlog.Log {
	refused, _ := partlog.Open(nil, "p", api.LogConfig{Roll: 1, Step: 1})
	return map[string]*partlog.Log{"nil": nil, "zero": {}, "refused": refused}
}

// badNames are no logs' names.
func badNames() []string {
	return []string{"", "P", "pP", "p-", "-", "p0", "p.", "0", "a b", "{", "`", "abcdefghi", "p-00000000000000", "\x00", "é", string(make([]byte, 40))}
}

// badConfigs may not be.
func badConfigs() []api.LogConfig {
	var l []api.LogConfig
	for _, roll := range []int{0, -1, math.MinInt, maxRoll + 1, maxRoll + 65536, 1 << 32, 1<<32 + 1, math.MaxInt} {
		l = append(l, api.LogConfig{Roll: roll, Step: 64})
	}
	for _, step := range []int{0, -1, math.MinInt, maxStep + 1, 1 << 32, 1<<32 + 1, math.MaxInt} {
		l = append(l, api.LogConfig{Roll: 40, Step: step})
	}
	return append(l, api.LogConfig{})
}

// drawnFate is mostly a good one.
func drawnFate(r *rand.Rand, bad float64) api.Fate {
	switch {
	case r.Float64() >= bad:
		return good()
	case r.Intn(2) == 0:
		return fail(r.Intn(100) - 5)
	}
	return full(r.Intn(100) - 5)
}
