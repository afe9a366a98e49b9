package segment_test

import (
	"fmt"
	"iter"
	"math"
	"math/rand"
	"slices"
	"testing"

	"millrace/api"
	"millrace/segment"
)

// P10.4: each from, until and most of a segment, with indexes of any step.
func TestRead(t *testing.T) {
	for _, step := range []int{1, 40, 80, 200, maxStep} {
		for _, base := range []int64{0, 7, api.MaxOffset - 12} {
			s, p := filled(t, fresh(t), base, step, 1, 3, 1, 2, 5, 1)
			for from := base - 2; from <= p.end()+2; from++ {
				for until := base - 2; until <= p.end()+2; until++ {
					for most := -1; most <= 15; most++ {
						wantRead(t, fmt.Sprint("step ", step), s, p, from, until, most)
					}
					wantRead(t, "all", s, p, from, until, math.MaxInt)
					wantRead(t, "least", s, p, from, until, math.MinInt)
				}
			}
		}
	}
}

// P10.4: of a segment without batches, and of the edges of numbers.
func TestReadEdges(t *testing.T) {
	none, p := created(t, fresh(t), 5, 64)
	many, q := filled(t, fresh(t), 5, 64, 2, 3)
	numbers := append(far(), 0, 4, 5, 6, 10, 11, api.MaxOffset)
	for _, from := range numbers {
		for _, until := range numbers {
			for _, most := range []int{math.MinInt, -1, 0, 1, 5, 1 << 32, math.MaxInt} {
				wantRead(t, "no batches", none, p, from, until, most)
				wantRead(t, "two", many, q, from, until, most)
			}
		}
	}
}

// P10.4: most that may not be goes ahead of offsets that are not there.
func TestReadOrder(t *testing.T) {
	s, _ := filled(t, fresh(t), 5, 64, 2)
	want(t, "both", readError(s, 4, 9, -1), api.ErrArg)
	want(t, "most", readError(s, 5, 7, -1), api.ErrArg)
	want(t, "most", readError(s, 5, 7, math.MinInt), api.ErrArg)
	want(t, "below", readError(s, 4, 7, 0), api.ErrRange)
	want(t, "above", readError(s, 5, 8, 0), api.ErrRange)
	want(t, "from above until", readError(s, 7, 6, 0), api.ErrRange)
	want(t, "none", readError(s, 7, 7, 0), api.OK)
}

// P10.4: a segment of many bytes, with batches of all sizes, so that what is read at a time ends within batches and at their ends.
func TestReadLarge(t *testing.T) {
	r := rand.New(rand.NewSource(104))
	sizes := []int{32, 33, 35, 60, 100, 1000, 5000, 10000, 32768, api.MaxBatch - 1, api.MaxBatch}
	for _, step := range []int{1, 4096, 100000, maxStep} {
		d := fresh(t)
		s, p := created(t, d, 5, step)
		for range 60 {
			l := ofSize(sizes[r.Intn(len(sizes))])
			for i := range l {
				l[i].Time = r.Int63n(1 << 40)
			}
			oks(t, s.Append(p.add(l...)))
		}
		wantSegment(t, "large", s, p)
		for range 30 {
			from := p.base + r.Int63n(p.end()-p.base+1)
			until := from + r.Int63n(p.end()-from+1)
			wantRead(t, "large", s, p, from, until, math.MaxInt)
			wantRead(t, "large", s, p, from, p.end(), r.Intn(20))
		}
		for _, b := range p.batches {
			wantRead(t, "at a batch", s, p, b.Base, b.Base+1, 1)
			wantRead(t, "up to a batch", s, p, max(b.Base-1, p.base), b.Base, 9)
		}
	}
}

// P10.4: batches that fill just what is read at a time, and those whose ends are a byte off it.
func TestReadPieces(t *testing.T) {
	for _, sizes := range [][]int{
		{api.MaxBatch, api.MaxBatch, api.MaxBatch}, {32768, 32768, 32768, 32768, 40}, {32, api.MaxBatch, 32, api.MaxBatch - 32, 64},
		{api.MaxBatch - 1, 32, 40}, {api.MaxBatch - 3, 40, 32}, {api.MaxBatch - 4, 40, 32}, {api.MaxBatch - 5, 40, 32}, {32768, 32767, 50, api.MaxBatch, 32},
	} {
		s, p := created(t, fresh(t), 0, maxStep)
		for i, n := range sizes {
			l := ofSize(n)
			l[0].Time = int64(i)
			oks(t, s.Append(p.add(l...)))
		}
		wantSegment(t, fmt.Sprint(sizes), s, p)
		for _, b := range p.batches {
			wantRead(t, fmt.Sprint(sizes), s, p, b.Base, p.end(), math.MaxInt)
			wantRead(t, fmt.Sprint(sizes), s, p, b.Base, b.Base+1, 1)
		}
	}
}

// P10.4: many small batches are read in good time, each from its own offset on, too.
func TestReadMany(t *testing.T) {
	s, _ := created(t, fresh(t), 0, 4096)
	for i := range int64(10000) {
		oks(t, s.Append(api.Batch{Base: i, Records: []api.Record{{Time: i}}}))
	}
	l, e := s.Read(0, 10000, math.MaxInt)
	if len(l) != 10000 || e != api.OK {
		t.Fatal(len(l), e)
	}
	for i := range l {
		one, e := s.Read(int64(i), 10000, 1)
		if len(one) != 1 || e != api.OK || one[0].Time != int64(i) || l[i].Time != int64(i) {
			t.Fatal(i, len(one), e)
		}
	}
}

// scribble changes all of some bytes, spare room included.
func scribble(b []byte) {
	b = b[:cap(b)]
	for i := range b {
		b[i] ^= 0x5a
	}
}

// wantApart writes over each Key and Value, one by one, and asks that no other one has changed.
func wantApart(t *testing.T, what string, l []api.Record) {
	t.Helper()
	var parts [][]byte
	var want []string
	for _, r := range l {
		parts = append(parts, r.Key, r.Value)
		want = append(want, string(r.Key), string(r.Value))
	}
	for i, p := range parts {
		scribble(p)
		for k := range parts {
			if k != i && string(parts[k]) != want[k] {
				t.Fatalf("%s: part %d is changed with part %d", what, k, i)
			}
		}
		scribble(p)
	}
}

// P10.4: answers are new memory, spare room included.
func TestNewMemory(t *testing.T) {
	s, p := filled(t, fresh(t), 5, 40, 2, 3, 1)
	one, _ := s.Read(5, 11, 9)
	two, _ := s.Read(6, 11, 9)
	all := s.Batches()
	var batches []api.Record
	for range 2 {
		for _, b := range all {
			batches = append(batches, b.Records...)
		}
	}
	wantApart(t, "answers", slices.Concat(one, two, batches))
	for _, l := range [][]api.Record{one, two, batches} {
		for i := range l {
			scribble(l[i].Key)
			scribble(l[i].Value)
		}
		clear(l[:cap(l)])
	}
	spots := s.Spots()
	clear(spots[:cap(spots)])
	wantSegment(t, "written over", s, p)
	wantBatches(t, "written over", all, p.batches)
	for _, b := range all {
		clear(b.Records[:cap(b.Records)])
	}
	wantBatches(t, "cleared", all, p.batches)
}

// P10.4: as they are when Batches is called, whatever the segment and its disk do then.
func TestBatchesAsCalled(t *testing.T) {
	d := fresh(t)
	s, p := created(t, d, 5, 64)
	var calls []iter.Seq2[int, api.Batch]
	for i := range 5 {
		calls = append(calls, s.Batches())
		oks(t, s.Append(p.add(some(1+i, 10*i)...)))
	}
	for range 2 {
		for i, all := range calls {
			wantBatches(t, fmt.Sprint("call ", i), all, p.batches[:i])
		}
	}
	n := 0
	for at := range s.Batches() { // the segment grows while one goes over it
		oks(t, s.Append(p.add(some(1, at)...)))
		n++
	}
	if n != 5 {
		t.Error(n)
	}
	all := s.Batches()
	oks(t, d.Remove("p-00000000000005"))
	wantBatches(t, "the file is gone", all, p.batches)
}

// P10.4: left at each batch, then not asked any more; gone over again, within itself, and by two at a time.
func TestBatchesLeft(t *testing.T) {
	s, p := filled(t, fresh(t), 5, 64, 2, 3, 1)
	all := s.Batches()
	for stop := range 3 {
		n := 0
		all(func(at int, b api.Batch) bool {
			if !sameBatch(b, p.batches[n]) {
				t.Error(stop, at)
			}
			n++
			return n <= stop
		})
		if n != stop+1 {
			t.Errorf("asked %d times, left at %d", n, stop)
		}
	}
	for range all {
		wantBatches(t, "within", all, p.batches)
	}
	one, stopOne := iter.Pull2(all)
	two, stopTwo := iter.Pull2(all)
	defer stopOne()
	defer stopTwo()
	one()
	_, b, _ := one()
	_, c, _ := two()
	if !sameBatch(b, p.batches[1]) || !sameBatch(c, p.batches[0]) {
		t.Error(b.Base, c.Base)
	}
}

// P10.4: Spots are the index' ones, as Append and Open make them; at a place from the step on, and not a byte ahead.
func TestSpots(t *testing.T) {
	d := fresh(t)
	s, p := created(t, d, 5, 100)
	for _, n := range []int{50, 49, 40, 100, 99, 32, 101, 33, 67, 100} {
		oks(t, s.Append(p.add(ofSize(n)...)))
	}
	// Places: 0, 50, 99, 139, 239, 338, 370, 471, 504, 571.
	want := []api.Spot{{Offset: 5, Place: 0}, {Offset: 8, Place: 139}, {Offset: 9, Place: 239}, {Offset: 11, Place: 370}, {Offset: 12, Place: 471}, {Offset: 14, Place: 571}}
	if got := s.Spots(); !slices.Equal(got, want) {
		t.Errorf("%v, want %v", got, want)
	}
	for _, step := range []int{1, 49, 50, 51, 100, 101, 239, 240, 571, 572, maxStep} {
		o, e := segment.Open(d, "p-00000000000005", step)
		oks(t, e)
		p.step = step
		wantSegment(t, fmt.Sprint("step ", step), o, p)
	}
}

// P10.4: calls that tell change nothing, and do no step.
func TestTellsOnly(t *testing.T) {
	d := fresh(t)
	s, p := filled(t, d, 5, 64, 2, 3)
	oks(t, d.Feed(fail(0)))
	was := d.Copy()
	for range 3 {
		wantSegment(t, "told", s, p)
		s.Read(5, 99, 1)
		s.Read(5, 6, -1)
	}
	wantSteps(t, "told", d, 3, 1)
	if !d.Same(was) {
		t.Error("changed")
	}
}
