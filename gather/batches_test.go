package gather_test

import (
	"iter"
	"math"
	"math/rand"
	"testing"

	"millrace/api"
	"millrace/gather"
)

// wantNoBatches asks Batches for an error, and for no iterator.
func wantNoBatches(t *testing.T, what string, take int, base int64, l []list, want api.Errno) {
	t.Helper()
	if all, e := gather.Batches(take, base, l...); all != nil || e != want {
		t.Errorf("%s: Batches(%d, %d, %d lists): %v, want %v", what, take, base, len(l), e, want)
	}
}

// P6.4: the batches that Plan makes, each with how many lists it has, and its Base.
func TestBatches(t *testing.T) {
	a, b, c := of(1, 10), of(2, 20), of(3, 30)
	got := told(t, 2, 5, a, b, c)
	want := []batch{{2, api.Batch{Base: 5, Records: all([]list{a, b})}}, {1, api.Batch{Base: 8, Records: c}}}
	if !sameBatches(got, want) {
		t.Error(got)
	}
	got = told(t, 1, 0, a, b, c)
	want = []batch{{1, api.Batch{Base: 0, Records: a}}, {1, api.Batch{Base: 1, Records: b}}, {1, api.Batch{Base: 3, Records: c}}}
	if !sameBatches(got, want) {
		t.Error(got)
	}
	got = told(t, 9, 7, of(100, 0), of(100, 0), of(100, 0))
	if len(got) != 2 || got[0].n != 2 || got[1].n != 1 || got[0].Base != 7 || got[1].Base != 207 {
		t.Error(len(got))
	}
}

// P6.4: of no lists it is there, and tells nothing.
func TestBatchesNone(t *testing.T) {
	for _, base := range []int64{0, 7, api.MaxOffset} {
		if got := told(t, 1, base); len(got) != 0 {
			t.Error(base, got)
		}
	}
}

// P6.4: just up to the last offset, and one above it.
func TestBatchesEnd(t *testing.T) {
	l := []list{of(200, 1), of(100, 2), of(1, 3)}
	got := told(t, 9, api.MaxOffset+1-301, l...)
	if len(got) != 2 || got[1].Base != api.MaxOffset-100 || !sameBatches(got, batched(9, api.MaxOffset-300, l)) {
		t.Error(len(got))
	}
	wantNoBatches(t, "one above", 9, api.MaxOffset+1-300, l, api.ErrLarge)
	if got := told(t, 1, api.MaxOffset, of(1, 1)); len(got) != 1 || got[0].Base != api.MaxOffset {
		t.Error(got)
	}
	wantNoBatches(t, "two at the last", 1, api.MaxOffset, times(2, of(1, 1)), api.ErrLarge)
}

// P6.4: each error of Plan and of Offsets by itself.
func TestBatchesRefused(t *testing.T) {
	l := []list{of(1, 1), of(200, 2), of(100, 3)}
	for _, take := range []int{0, -1, math.MinInt} {
		wantNoBatches(t, "take", take, 0, l, api.ErrArg)
		wantNoBatches(t, "take, no lists", take, 0, nil, api.ErrArg)
	}
	for _, base := range []int64{-1, math.MinInt64, api.MaxOffset + 1, math.MaxInt64} {
		wantNoBatches(t, "base", 1, base, l, api.ErrArg)
		wantNoBatches(t, "base, no lists", 1, base, nil, api.ErrArg)
	}
	for what, x := range refused() {
		for place := range l {
			wantNoBatches(t, what, 2, 0, with(l, place, x.l), x.e)
		}
	}
	wantNoBatches(t, "long", 1, 0, times(api.MaxQueue+1, of(1, 1)), api.ErrLong)
	if got := told(t, 100, 0, times(api.MaxQueue, of(1, 1))...); len(got) != 3 || got[2].Base != 200 || got[2].n != 56 {
		t.Error(len(got))
	}
}

// P6.4: all errors of Plan are ahead of those of Offsets.
func TestBatchesErrorOrder(t *testing.T) {
	large, long := bare(api.MaxRecords+1), times(api.MaxQueue+1, of(1, 1))
	wantNoBatches(t, "large, base", 1, -1, []list{large}, api.ErrLarge)
	wantNoBatches(t, "long, base", 1, -1, long, api.ErrLong)
	wantNoBatches(t, "long, large", 1, 0, with(long, 0, large), api.ErrLong)
	wantNoBatches(t, "long, above", 1, api.MaxOffset, long, api.ErrLong)
	wantNoBatches(t, "large, none", 1, 0, []list{large, nil}, api.ErrArg)
	wantNoBatches(t, "none, above", 1, api.MaxOffset, []list{of(3, 1), nil}, api.ErrArg)
	wantNoBatches(t, "take, above", 0, api.MaxOffset, []list{of(3, 1)}, api.ErrArg)
	wantNoBatches(t, "take, long", 0, 0, long, api.ErrArg)
	wantNoBatches(t, "take, large", 0, 0, []list{large}, api.ErrArg)
}

// P6.4: left at each batch, then not asked any more; gone over again from the first one on.
func TestBatchesLeft(t *testing.T) {
	l := []list{of(100, 0), of(156, 1), of(1, 2), of(255, 3), of(9, 4)}
	want := batched(9, 40, l)
	over, e := gather.Batches(9, 40, l...)
	if e != api.OK || len(want) != 3 {
		t.Fatal(e, len(want))
	}
	for stop := range want {
		var got []batch
		over(func(n int, b api.Batch) bool {
			got = append(got, batch{n, b})
			return len(got) <= stop
		})
		if !sameBatches(got, want[:stop+1]) {
			t.Error(stop, len(got))
		}
	}
	for range 2 {
		var got []batch
		for n, b := range over {
			got = append(got, batch{n, b})
		}
		if !sameBatches(got, want) {
			t.Error(len(got))
		}
	}
}

// P6.4: gone over within itself, and by two at a time.
func TestBatchesTwice(t *testing.T) {
	over, _ := gather.Batches(1, 7, of(1, 1), of(2, 2), of(3, 3))
	var bases []int64
	for _, a := range over {
		for _, b := range over {
			bases = append(bases, 100*a.Base+b.Base)
		}
	}
	for i, want := range []int64{707, 708, 710, 807, 808, 810, 1007, 1008, 1010} {
		if len(bases) != 9 || bases[i] != want {
			t.Fatal(bases)
		}
	}
	one, stopOne := iter.Pull2(over)
	two, stopTwo := iter.Pull2(over)
	defer stopOne()
	defer stopTwo()
	one()
	_, a, _ := one()
	_, b, _ := two()
	if a.Base != 8 || b.Base != 7 {
		t.Error(a.Base, b.Base)
	}
}

// P6.4: drawn lists, held to the chapter's words.
func TestBatchesDrawn(t *testing.T) {
	r := rand.New(rand.NewSource(64))
	for range 300 {
		l := drawn(r, 12)
		take, base := 1+r.Intn(6), r.Int63n(api.MaxOffset-1<<20)
		if got := told(t, take, base, l...); !sameBatches(got, batched(take, base, l)) {
			t.Errorf("%d lists by %d from %d: %d batches", len(l), take, base, len(got))
		}
	}
}
