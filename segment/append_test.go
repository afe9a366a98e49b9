package segment_test

import (
	"bytes"
	"fmt"
	"math"
	"slices"
	"testing"

	"millrace/api"
	"millrace/disk"
	"millrace/record"
	"millrace/segment"
)

// P10.3: the batch stands at its end, does not last yet, and the index has it, if it is far enough.
func TestAppend(t *testing.T) {
	for _, step := range []int{1, 35, 36, 37, 72, 73, 100, 500, maxStep} {
		d := fresh(t)
		s, p := created(t, d, 9, step)
		for i := range 20 {
			oks(t, s.Append(p.add(some(1+i%4, 100*i)...)))
			wantSegment(t, fmt.Sprint(step, i), s, p)
			wantFile(t, "appended", d, "p-00000000000009", p.bytes(), 0)
			wantSteps(t, "a step each", d, 2+i, 0)
			f := api.Found{Batches: i + 1, End: p.end(), Size: len(p.bytes()), Why: api.ErrEnd}
			wantFound(t, "appended", d, "p-00000000000009", f)
		}
	}
}

// P10.3: batches at the edges: the most records, the most bytes, the last offset; behind it there is none.
func TestAppendEdges(t *testing.T) {
	d := fresh(t)
	const base = api.MaxOffset - 300
	s, p := created(t, d, base, 1)
	oks(t, s.Append(p.add(some(api.MaxRecords, 0)...)))
	oks(t, s.Append(p.add(ofSize(api.MaxBatch)...)))
	oks(t, s.Append(p.add(api.Record{Time: api.MaxTime})))
	left := int(api.MaxOffset - p.end() + 1)
	want(t, "past the last offset", s.Append(api.Batch{Base: p.end(), Records: some(left+1, 0)}), api.ErrArg)
	oks(t, s.Append(p.add(some(left, 7)...)))
	if s.End() != api.MaxOffset+1 {
		t.Error(s.End())
	}
	want(t, "behind the last offset", s.Append(api.Batch{Base: s.End(), Records: some(1, 0)}), api.ErrArg)
	wantSegment(t, "edges", s, p)
	o, e := segment.Open(d, nameOf(t, "p", base), 1)
	oks(t, e)
	wantSegment(t, "opened", o, p)
	last, p := created(t, d, api.MaxOffset, 1)
	oks(t, last.Append(p.add(some(1, 3)...)))
	wantSegment(t, "the last base", last, p)
}

// wrong are batches at an end that record.Put refuses.
func wrong(end int64) map[string]api.Batch {
	few := some(2, 0)
	return map[string]api.Batch{
		"no records":    {Base: end},
		"empty records": {Base: end, Records: []api.Record{}},
		"time below 0":  {Base: end, Records: append(slices.Clone(few), api.Record{Time: -1})},
		"time above":    {Base: end, Records: []api.Record{{Time: api.MaxTime + 1}}},
		"key":           {Base: end, Records: []api.Record{{Key: make([]byte, api.MaxKey+1)}}},
		"value":         {Base: end, Records: []api.Record{{Value: make([]byte, api.MaxValue+1)}}},
		"base below 0":  {Base: -1, Records: few},
		"base above":    {Base: api.MaxOffset, Records: few},
		"least base":    {Base: math.MinInt64, Records: few},
		"greatest base": {Base: math.MaxInt64, Records: few},
		"many":          {Base: end, Records: some(api.MaxRecords+1, 0)},
		"large":         {Base: end, Records: ofSize(api.MaxBatch + 1)},
		"many, wrong":   {Base: end, Records: append(some(api.MaxRecords, 0), api.Record{Time: -1})},
		"large, no end": {Base: end + 1, Records: ofSize(api.MaxBatch + 1)},
		"none, no end":  {Base: end + 1},
	}
}

// P10.3: record.Put's errors, also where Base is not the end; nothing has changed.
func TestAppendPut(t *testing.T) {
	d := fresh(t)
	s, p := filled(t, d, 5, 64, 2, 1)
	oks(t, d.Feed(fail(0)))
	for what, b := range wrong(p.end()) {
		_, e := record.Put(b)
		if e != api.ErrArg && e != api.ErrLarge {
			t.Fatal(what, e)
		}
		want(t, what, s.Append(b), e)
	}
	wantSegment(t, "refused", s, p)
	wantSteps(t, "refused", d, 3, 1)
}

// P10.3: a Base that is not the end; nothing has changed, and no fate is taken.
func TestAppendRange(t *testing.T) {
	d := fresh(t)
	s, p := created(t, d, 5, 64)
	for _, base := range []int64{0, 4, 6, api.MaxOffset} {
		want(t, "the first", s.Append(api.Batch{Base: base, Records: some(1, 0)}), api.ErrRange)
	}
	oks(t, s.Append(p.add(some(3, 0)...)), d.Feed(fail(0)))
	for _, base := range []int64{0, 4, 5, 6, 7, 9, 10, 1 << 40, api.MaxOffset} {
		want(t, fmt.Sprint(base), s.Append(api.Batch{Base: base, Records: some(1, 0)}), api.ErrRange)
	}
	wantSegment(t, "refused", s, p)
	wantSteps(t, "refused", d, 2, 1)
	want(t, "its fate", s.Append(api.Batch{Base: 8, Records: some(1, 0)}), api.ErrDisk)
}

// P10.3: disk.Append's errors: what went well stands at the file's end, and Look tells it. Offsets and batches stay as they were.
func TestAppendDisk(t *testing.T) {
	const name = "p-00000000000005"
	b := api.Batch{Base: 8, Records: some(2, 900)}
	of := batchBytes(b)
	for keep := -1; keep <= len(of)+1; keep++ {
		for _, fate := range []api.Fate{fail(keep), full(keep)} {
			d := fresh(t)
			s, p := filled(t, d, 5, 64, 2, 1)
			e := map[api.FateKind]api.Errno{api.FateFail: api.ErrDisk, api.FateFull: api.ErrFull}[fate.Kind]
			oks(t, d.Feed(fate))
			want(t, "failed", s.Append(b), e)
			stands := slices.Concat(p.bytes(), of[:min(max(keep, 0), len(of))])
			wantFile(t, "failed", d, name, stands, 0)
			wantFound(t, "failed", d, name, foundIn(stands, 5, append(slices.Clone(p.batches), b)))
			wantSegment(t, "failed", s, p)
			wantRead(t, "failed", s, p, 6, 8, 1)
		}
	}
}

// P10.3: above MaxSize bytes the disk refuses: nothing has changed, and what goes still goes.
func TestAppendFull(t *testing.T) {
	d := fresh(t)
	s, p := created(t, d, 0, maxStep)
	most := ofSize(api.MaxBatch)
	for range api.MaxSize/api.MaxBatch - 1 {
		oks(t, s.Append(p.add(most...)))
	}
	oks(t, s.Append(p.add(ofSize(api.MaxBatch-100)...)))
	for _, n := range []int{101, 102, 500, api.MaxBatch} {
		want(t, fmt.Sprint(n), s.Append(api.Batch{Base: p.end(), Records: ofSize(n)}), api.ErrFull)
	}
	if s.Size() != api.MaxSize-100 || s.End() != p.end() {
		t.Error(s.Size(), s.End())
	}
	oks(t, s.Append(p.add(ofSize(100)...)))
	want(t, "no byte more", s.Append(api.Batch{Base: p.end(), Records: some(1, 0)}), api.ErrFull)
	wantSegment(t, "full", s, p)
	const name = "p-00000000000000"
	wantFound(t, "full", d, name, api.Found{Batches: len(p.batches), End: p.end(), Size: api.MaxSize, Why: api.ErrEnd})
	o, e := segment.Open(d, name, maxStep)
	oks(t, e)
	wantSegment(t, "opened", o, p)
}

// P10.3: what is handed in is neither changed nor kept, spare room included.
func TestAppendKeepsNothing(t *testing.T) {
	d := fresh(t)
	s, p := created(t, d, 5, 64)
	room := []byte("keyvalue....")
	l := []api.Record{{Time: 1, Key: room[:3], Value: room[3:8]}, {Time: 2, Key: room[:0]}, rec(9, "not", "appended")}
	p.add(rec(1, "key", "value"), rec(2, "", ""))
	oks(t, s.Append(api.Batch{Base: 5, Records: l[:2]}))
	if string(room) != "keyvalue...." || !sameRecords(l, []api.Record{rec(1, "key", "value"), rec(2, "", ""), rec(9, "not", "appended")}) {
		t.Errorf("%q %v", room, l)
	}
	copy(room, bytes.Repeat([]byte{'!'}, len(room)))
	clear(l)
	wantSegment(t, "kept", s, p)
}

// P10.3: all batches last behind Sync; those behind it do not.
func TestSync(t *testing.T) {
	const name = "p-00000000000005"
	d := fresh(t)
	s, p := created(t, d, 5, 64)
	oks(t, s.Sync())
	wantFile(t, "no batches", d, name, nil, 0)
	oks(t, s.Append(p.add(some(2, 0)...)), s.Append(p.add(some(1, 5)...)), s.Sync())
	lasts := len(p.bytes())
	wantFile(t, "synced", d, name, p.bytes(), lasts)
	oks(t, s.Append(p.add(some(3, 9)...)))
	wantFile(t, "behind", d, name, p.bytes(), lasts)
	wantSteps(t, "all", d, 6, 0)
	other, q := filled(t, d, 77, 64, 1)
	oks(t, other.Sync())
	wantFile(t, "another", d, name, p.bytes(), lasts)
	wantFile(t, "another", d, "p-0000000000004d", q.bytes(), len(q.bytes()))
	if f, _ := d.File(name); f.NameLasts {
		t.Error("its name lasts")
	}
	wantSegment(t, "as it was", s, p)
}

// P10.3: disk.Sync's errors: of what does not last the first bytes do.
func TestSyncDisk(t *testing.T) {
	const name = "p-00000000000005"
	for keep := -1; keep < 120; keep++ {
		d := fresh(t)
		s, p := filled(t, d, 5, 64, 2, 1)
		oks(t, d.Feed(fail(keep), full(0)))
		want(t, "failed", s.Sync(), api.ErrDisk)
		wantFile(t, "failed", d, name, p.bytes(), min(max(keep, 0), len(p.bytes())))
		want(t, "full", s.Sync(), api.ErrFull)
		wantSegment(t, "failed", s, p)
		oks(t, s.Sync())
		wantFile(t, "synced", d, name, p.bytes(), len(p.bytes()))
	}
}

// P10.3: the disk's own refusals, of a file that is gone.
func TestGone(t *testing.T) {
	d := fresh(t)
	s, p := filled(t, d, 5, 64, 2)
	oks(t, d.Remove("p-00000000000005"))
	want(t, "Append", s.Append(api.Batch{Base: 7, Records: some(1, 0)}), api.ErrNone)
	want(t, "Sync", s.Sync(), api.ErrNone)
	if s.Base() != 5 || s.End() != p.end() || s.Size() != len(p.bytes()) {
		t.Error(s.Base(), s.End(), s.Size())
	}
	want(t, "Read", readError(s, 5, 7, 9), api.ErrNone)
}

// P10.3, P10.4: of a nil segment and of a zero one.
func TestNoSegment(t *testing.T) {
	for what, s := range nones() {
		for _, b := range []api.Batch{{}, {Records: some(1, 0)}, {Base: 5, Records: some(1, 0)}, {Base: -1}} {
			want(t, what+" Append", s.Append(b), api.ErrNil)
		}
		want(t, what+" Sync", s.Sync(), api.ErrNil)
		for _, most := range []int{0, 1, -1} {
			want(t, what+" Read", readError(s, 0, 0, most), api.ErrNil)
			want(t, what+" Read", readError(s, -5, 7, most), api.ErrNil)
		}
		if s.Base() != 0 || s.End() != 0 || s.Size() != 0 || len(s.Spots()) != 0 {
			t.Error(what, s.Base(), s.End(), s.Size(), s.Spots())
		}
		all := s.Batches()
		if all == nil {
			t.Fatal(what, "no iterator")
		}
		wantBatches(t, what, all, nil)
	}
}

// P10.3, P10.4: nothing is promised of a segment whose file somebody else writes, but that each call ends.
func TestWrittenByOthers(t *testing.T) {
	const name = "p-00000000000005"
	cut := func(n int) func(*disk.Disk) { return func(d *disk.Disk) { oks(t, d.Cut(name, n)) } }
	put := func(n int, b []byte) func(*disk.Disk) {
		return func(d *disk.Disk) { oks(t, d.Cut(name, n), d.Append(name, b)) }
	}
	for what, change := range map[string]func(*disk.Disk){
		"emptied": cut(0), "cut": cut(60), "torn": cut(20), "noughts": put(0, make([]byte, 500)), "noughts inside": put(52, make([]byte, 500)),
		"other batches": put(0, slices.Repeat(batchBytes(api.Batch{Base: 900, Records: some(2, 0)}), 9)), "more": put(0, (&plain{batches: three(5).batches}).bytes()),
	} {
		d := fresh(t)
		s, p := filled(t, d, 5, 40, 2, 3, 1)
		change(d)
		for from := p.base; from <= p.end(); from++ {
			s.Read(from, p.end(), 9)
		}
		for range s.Batches() {
		}
		if s.Base() != 5 || s.End() != 11 {
			t.Error(what, s.Base(), s.End())
		}
		s.Append(api.Batch{Base: 11, Records: some(1, 0)})
		s.Read(5, 12, 9)
		s.Sync()
	}
}
