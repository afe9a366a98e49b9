package gather_test

import (
	"math"
	"math/rand"
	"slices"
	"testing"

	"millrace/api"
	"millrace/gather"
)

// wantOffsets asks Offsets for these offsets and the one behind them.
func wantOffsets(t *testing.T, base int64, l []list, firsts []int64, end int64) {
	t.Helper()
	if o, n, e := gather.Offsets(base, l...); !slices.Equal(o, firsts) || n != end || e != api.OK {
		t.Errorf("Offsets(%d) of %d lists: %v, %d, %v; want %v, %d", base, len(l), o, n, e, firsts, end)
	}
}

// wantNoOffsets asks Offsets for an error, and for nothing beside it.
func wantNoOffsets(t *testing.T, what string, base int64, l []list, want api.Errno) {
	t.Helper()
	if o, n, e := gather.Offsets(base, l...); o != nil || n != 0 || e != want {
		t.Errorf("%s: Offsets(%d) of %d lists: %v, %d, %v; want %v", what, base, len(l), o, n, e, want)
	}
}

// P6.2: the chapter's example, and lists of other lengths.
func TestOffsets(t *testing.T) {
	wantOffsets(t, 7, times(3, bare(100)), []int64{7, 107, 207}, 307)
	wantOffsets(t, 0, []list{bare(1), bare(2), bare(3), bare(1)}, []int64{0, 1, 3, 6}, 7)
	wantOffsets(t, 5, []list{bare(1)}, []int64{5}, 6)
	wantOffsets(t, 1, []list{bare(api.MaxRecords), weighing(api.MaxBatch - 20)}, []int64{1, 257}, 257+16)
}

// P6.2: of no lists the offset behind the last one is base.
func TestOffsetsNone(t *testing.T) {
	for _, base := range []int64{0, 1, 1 << 33, api.MaxOffset} {
		wantOffsets(t, base, nil, nil, base)
	}
}

// P6.2: bases from 0 to MaxOffset, and past them.
func TestOffsetsBase(t *testing.T) {
	wantOffsets(t, 0, times(2, bare(2)), []int64{0, 2}, 4)
	wantOffsets(t, api.MaxOffset, times(1, bare(1)), []int64{api.MaxOffset}, api.MaxOffset+1)
	for _, base := range []int64{-1, -2, math.MinInt64, math.MinInt64 + 1, api.MaxOffset + 1, api.MaxOffset + 2, math.MaxInt64 - 1, math.MaxInt64} {
		for _, l := range [][]list{nil, times(1, bare(1)), times(3, bare(100)), {nil}, {bare(257)}, times(257, bare(1))} {
			wantNoOffsets(t, "no base", base, l, api.ErrArg)
		}
	}
}

// P6.2: the offset behind the last one may be MaxOffset and 1, and no more, however many lists lead there.
func TestOffsetsEnd(t *testing.T) {
	for _, l := range [][]list{times(1, bare(1)), times(1, bare(2)), {bare(2), bare(1)}, times(2, bare(200)), times(api.MaxQueue, bare(api.MaxRecords))} {
		last := int64(api.MaxOffset + 1 - len(all(l)))
		var firsts []int64
		for i := range l {
			firsts = append(firsts, last+int64(i*len(l[0])))
		}
		wantOffsets(t, last, l, firsts, api.MaxOffset+1)
		if len(all(l)) == 1 {
			wantNoOffsets(t, "past, by base", last+1, l, api.ErrArg)
			continue
		}
		wantNoOffsets(t, "one above", last+1, l, api.ErrLarge)
		wantNoOffsets(t, "as far as base goes", api.MaxOffset, l, api.ErrLarge)
	}
}

// P6.2: a list that may not be, or is too large, at each place; too many.
func TestOffsetsRefused(t *testing.T) {
	l := []list{bare(1), bare(200), bare(100)}
	for what, x := range refused() {
		for place := range l {
			for _, base := range []int64{0, 9, api.MaxOffset} {
				wantNoOffsets(t, what, base, with(l, place, x.l), x.e)
			}
		}
	}
	long := times(api.MaxQueue+1, bare(1))
	wantNoOffsets(t, "long", 0, long, api.ErrLong)
	wantNoOffsets(t, "long, above", api.MaxOffset, long, api.ErrLong)
	wantNoOffsets(t, "long, large", 0, with(long, 0, bare(257)), api.ErrLong)
	wantNoOffsets(t, "long, none", 0, with(long, api.MaxQueue, nil), api.ErrArg)
	wantNoOffsets(t, "none, above", api.MaxOffset, []list{bare(5), nil}, api.ErrArg)
	wantNoOffsets(t, "large, none", 0, []list{bare(257), nil}, api.ErrArg)
}

// P6.2: lists need not go into one batch; MaxQueue of them go.
func TestOffsetsMany(t *testing.T) {
	l := times(api.MaxQueue, bare(api.MaxRecords))
	o, end, e := gather.Offsets(3, l...)
	if len(o) != api.MaxQueue || o[255] != 3+255*256 || end != 3+256*256 || e != api.OK {
		t.Error(len(o), end, e)
	}
}

// P6.2: each record's offset is one above that of the one ahead.
func TestOffsetsDrawn(t *testing.T) {
	r := rand.New(rand.NewSource(62))
	for range 300 {
		l := drawn(r, 9)
		base := r.Int63n(api.MaxOffset - 1<<20)
		next := base
		var firsts []int64
		for _, x := range l {
			firsts = append(firsts, next)
			for range x {
				next++
			}
		}
		wantOffsets(t, base, l, firsts, next)
	}
}
