package segment_test

import (
	"bytes"
	"iter"
	"math"
	"slices"
	"testing"

	"millrace/api"
	"millrace/disk"
	"millrace/segment"
)

// maxStep is an index' greatest step.
const maxStep = 1 << 24

func fail(keep int) api.Fate { return api.Fate{Kind: api.FateFail, Keep: keep} }
func full(keep int) api.Fate { return api.Fate{Kind: api.FateFull, Keep: keep} }

func rec(time int64, key, value string) api.Record {
	return api.Record{Time: time, Key: []byte(key), Value: []byte(value)}
}

// some are records, each unlike the others, and unlike those of another first one.
func some(n, first int) []api.Record {
	var l []api.Record
	for i := range n {
		l = append(l, rec(int64(first+i), "k", string([]byte{byte(i), byte(first), byte(first >> 8)})))
	}
	return l
}

// sized is a record of that many bytes.
func sized(n int) api.Record {
	key := min(n-12, api.MaxKey)
	return api.Record{Time: 3, Key: bytes.Repeat([]byte{'k'}, key), Value: bytes.Repeat([]byte{'v'}, n-12-key)}
}

// ofSize are records whose batch has that many bytes.
func ofSize(n int) []api.Record {
	const most = 12 + api.MaxKey + api.MaxValue
	var l []api.Record
	n -= 20
	for n > most {
		l = append(l, sized(min(most, n-12)))
		n -= min(most, n-12)
	}
	return append(l, sized(n))
}

// oks fails if one is an error.
func oks(t *testing.T, l ...api.Errno) {
	t.Helper()
	for i, e := range l {
		if e != api.OK {
			t.Fatalf("call %d: %v", i, e)
		}
	}
}

// want asks for an answer.
func want(t *testing.T, what string, got, want api.Errno) {
	t.Helper()
	if got != want {
		t.Errorf("%s: %v, want %v", what, got, want)
	}
}

func fresh(t *testing.T, fates ...api.Fate) *disk.Disk {
	t.Helper()
	d, e := disk.New(fates...)
	oks(t, e)
	return d
}

// nameOf is a segment's name.
func nameOf(t *testing.T, log string, base int64) string {
	t.Helper()
	name, e := segment.Name(log, base)
	oks(t, e)
	return name
}

// created is a segment of the log p, and the plain one that it is as.
func created(t *testing.T, d *disk.Disk, base int64, step int) (*segment.Segment, *plain) {
	t.Helper()
	s, e := segment.Create(d, "p", base, step)
	if s == nil || e != api.OK {
		t.Fatalf("Create from %d: %v", base, e)
	}
	return s, &plain{base: base, step: step}
}

// filled is a segment with batches of so many records each.
func filled(t *testing.T, d *disk.Disk, base int64, step int, counts ...int) (*segment.Segment, *plain) {
	t.Helper()
	s, p := created(t, d, base, step)
	for i, n := range counts {
		oks(t, s.Append(p.add(some(n, 100*i)...)))
	}
	return s, p
}

// laid is a disk with a file of these bytes, all of which last, and a fate ahead for each step that would be done.
func laid(t *testing.T, name string, b []byte, fates ...api.Fate) *disk.Disk {
	t.Helper()
	d := fresh(t)
	oks(t, d.Create(name), d.Append(name, b), d.Sync(name), d.SyncDir(), d.Feed(fates...))
	return d
}

// crashed is what a crash by these picks leaves.
func crashed(t *testing.T, d *disk.Disk, picks ...int) *disk.Disk {
	t.Helper()
	o, e := d.Crash(api.Stop{Picks: picks})
	oks(t, e)
	return o
}

func sameRecords(a, b []api.Record) bool {
	return slices.EqualFunc(a, b, func(x, y api.Record) bool {
		return x.Time == y.Time && bytes.Equal(x.Key, y.Key) && bytes.Equal(x.Value, y.Value)
	})
}

func sameBatch(a, b api.Batch) bool { return a.Base == b.Base && sameRecords(a.Records, b.Records) }

// wantFile asks a disk for a file's bytes, and how many of them last.
func wantFile(t *testing.T, what string, d *disk.Disk, name string, b []byte, lasts int) {
	t.Helper()
	got, e := d.Read(name, 0, math.MaxInt)
	if !bytes.Equal(got, b) || e != api.OK {
		t.Errorf("%s: %d bytes, %v, want %d", what, len(got), e, len(b))
	}
	if f, e := d.File(name); f.Lasts != lasts || e != api.OK {
		t.Errorf("%s: %d bytes last, %v, want %d", what, f.Lasts, e, lasts)
	}
}

// wantSteps asks a disk how many steps were done, and how many fates are left.
func wantSteps(t *testing.T, what string, d *disk.Disk, steps, left int) {
	t.Helper()
	if n, m := d.Steps(); n != steps || m != left {
		t.Errorf("%s: %d steps, %d fates left, want %d, %d", what, n, m, steps, left)
	}
}

// wantSegment asks all calls that tell of a segment for what the plain one is.
func wantSegment(t *testing.T, what string, s *segment.Segment, p *plain) {
	t.Helper()
	if s.Base() != p.base || s.End() != p.end() || s.Size() != len(p.bytes()) {
		t.Errorf("%s: from %d to %d, %d bytes, want %d, %d, %d", what, s.Base(), s.End(), s.Size(), p.base, p.end(), len(p.bytes()))
	}
	if got := s.Spots(); !slices.Equal(got, p.spots()) {
		t.Errorf("%s: Spots: %v, want %v", what, got, p.spots())
	}
	wantBatches(t, what, s.Batches(), p.batches)
	wantRead(t, what, s, p, p.base, p.end(), math.MaxInt)
}

// wantBatches asks an iterator for these, one behind the other.
func wantBatches(t *testing.T, what string, all iter.Seq2[int, api.Batch], batches []api.Batch) {
	t.Helper()
	i, place := 0, 0
	for at, b := range all {
		if i >= len(batches) || at != place || !sameBatch(b, batches[i]) {
			t.Fatalf("%s: number %d: from %d, %d records, at %d", what, i, b.Base, len(b.Records), at)
		}
		place += len(batchBytes(b))
		i++
	}
	if i != len(batches) {
		t.Errorf("%s: %d batches, want %d", what, i, len(batches))
	}
}

// wantRead asks Read for what the plain one reads.
func wantRead(t *testing.T, what string, s *segment.Segment, p *plain, from, until int64, most int) {
	t.Helper()
	want, wantE := p.read(from, until, most)
	if got, e := s.Read(from, until, most); !sameRecords(got, want) || e != wantE || e != api.OK && got != nil {
		t.Errorf("%s: Read(%d, %d, %d): %d records, %v, want %d, %v", what, from, until, most, len(got), e, len(want), wantE)
	}
}

// wantFound asks Look for what is found, and that it does no step.
func wantFound(t *testing.T, what string, d *disk.Disk, name string, want api.Found) {
	t.Helper()
	was, steps, left := d.Copy(), 0, 0
	steps, left = d.Steps()
	if f, e := segment.Look(d, name); f != want || e != api.OK {
		t.Errorf("%s: Look: %v %v, want %v", what, f, e, want)
	}
	wantSteps(t, what+": Look", d, steps, left)
	if !d.Same(was) {
		t.Errorf("%s: Look has changed the disk", what)
	}
}

// lookError, openError, mendError, createError and readError are what these calls answer; -1 where something stands beside an error, or nothing beside none.
func lookError(d *disk.Disk, name string) api.Errno {
	f, e := segment.Look(d, name)
	return alone(e, f == api.Found{})
}

func openError(d *disk.Disk, name string, step int) api.Errno {
	s, e := segment.Open(d, name, step)
	return alone(e, s == nil)
}

func mendError(d *disk.Disk, name string) api.Errno {
	f, e := segment.Mend(d, name)
	return alone(e, f == api.Found{})
}

func createError(d *disk.Disk, log string, base int64, step int) api.Errno {
	s, e := segment.Create(d, log, base, step)
	return alone(e, s == nil)
}

func readError(s *segment.Segment, from, until int64, most int) api.Errno {
	l, e := s.Read(from, until, most)
	if e != api.OK && l != nil {
		return -1
	}
	return e
}

func alone(e api.Errno, zero bool) api.Errno {
	if (e != api.OK) != zero {
		return -1
	}
	return e
}

// noDisks are a nil disk and a zero one.
func noDisks() map[string]*disk.Disk { return map[string]*disk.Disk{"nil": nil, "zero": {}} }

// nones are a nil segment, a zero one, and one whose Create refused.
func nones() map[string]*segment.Segment {
	refused, _ := segment.Create(nil, "p", 0, 1)
	return map[string]*segment.Segment{"nil": nil, "zero": {}, "refused": refused}
}

// steps are the edges of an index' step.
func goodSteps() []int { return []int{1, 2, 64, 4096, maxStep - 1, maxStep} }
func badSteps() []int {
	return []int{0, -1, -64, math.MinInt, maxStep + 1, 1 << 32, 1<<32 + 1, math.MaxInt}
}

// far are offsets and bases that may not be.
func far() []int64 {
	return []int64{-1, -2, math.MinInt64, math.MinInt64 + 1, -1 << 53, api.MaxOffset + 1, api.MaxOffset + 2, 1 << 56, 1<<56 + 5, 1 << 62, math.MaxInt64}
}
