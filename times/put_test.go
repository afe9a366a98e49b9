package times_test

import (
	"math"
	"slices"
	"testing"

	"millrace/api"
	"millrace/times"
)

// P12.1: New, at the edges of a base.
func TestNew(t *testing.T) {
	for _, base := range []int64{0, 1, 10, 1 << 32, maxOffset - 1, maxOffset} {
		x, e := times.New(base)
		if x == nil || e != api.OK {
			t.Fatalf("New(%d): %v %v", base, x, e)
		}
		wantIndex(t, "new", x, base, base)
		for _, n := range far() {
			wantFind(t, "new", x, n, 0, false)
			wantUntil(t, "new", x, n, 0, false)
		}
	}
	for _, base := range []int64{math.MinInt64, -maxOffset, -1, maxOffset + 1, maxOffset + 2, 1 << 60, math.MaxInt64} {
		if x, e := times.New(base); x != nil || e != api.ErrArg {
			t.Errorf("New(%d): %v %v", base, x, e)
		}
	}
}

// P12.1: each index has records of its own.
func TestNewApart(t *testing.T) {
	x, y := indexOf(t, 5, 1, 2), indexOf(t, 5)
	wantIndex(t, "one", x, 5, 7, rise(5, 1), rise(6, 2))
	wantIndex(t, "other", y, 5, 5)
}

// P12.1, P12.3: the chapter's calls.
func TestPutExample(t *testing.T) {
	wantIndex(t, "example", example(t), 10, 15, rise(10, 5), rise(13, 9))
}

// P12.1: a rise is above all ahead of it; the first record is one, of time 0, too.
func TestPutRises(t *testing.T) {
	for _, c := range []struct {
		times []int64
		rises []api.Rise
	}{
		{[]int64{0}, []api.Rise{rise(3, 0)}},
		{[]int64{0, 0, 0}, []api.Rise{rise(3, 0)}},
		{[]int64{0, 1, 0, 1, 2}, []api.Rise{rise(3, 0), rise(4, 1), rise(7, 2)}},
		{[]int64{7, 6, 5, 7, 6}, []api.Rise{rise(3, 7)}},
		{[]int64{7, 3, 4, 5, 8}, []api.Rise{rise(3, 7), rise(7, 8)}},
		{[]int64{maxTime, maxTime, 0}, []api.Rise{rise(3, maxTime)}},
		{[]int64{maxTime - 1, 0, maxTime}, []api.Rise{rise(3, maxTime-1), rise(5, maxTime)}},
		{[]int64{1, 2, 3, 4}, []api.Rise{rise(3, 1), rise(4, 2), rise(5, 3), rise(6, 4)}},
	} {
		wantIndex(t, "rises", indexOf(t, 3, c.times...), 3, 3+int64(len(c.times)), c.rises...)
	}
}

// P12.1: Put of no records changes nothing.
func TestPutNothing(t *testing.T) {
	x := example(t)
	wantErr(t, "Put()", x.Put(), api.OK)
	wantErr(t, "Put(none)", x.Put([]api.Record{}...), api.OK)
	wantIndex(t, "nothing", x, 10, 15, rise(10, 5), rise(13, 9))
	last, _ := times.New(maxOffset)
	wantErr(t, "Put()", last.Put(), api.OK)
	wantIndex(t, "nothing", last, maxOffset, maxOffset)
}

// P12.1: what comes behind is held against all that is there.
func TestPutBehind(t *testing.T) {
	x := indexOf(t, 0, 4, 2)
	wantErr(t, "Put", x.Put(records(3, 4)...), api.OK)
	wantIndex(t, "not above", x, 0, 4, rise(0, 4))
	wantErr(t, "Put", x.Put(records(5)...), api.OK)
	wantErr(t, "Put", x.Put(records(1, 6, 6, 7)...), api.OK)
	wantIndex(t, "above", x, 0, 9, rise(0, 4), rise(4, 5), rise(6, 6), rise(8, 7))
}

// wrong are records that may not be.
func wrong() map[string]api.Record {
	return map[string]api.Record{
		"time -1":         {Time: -1},
		"time too great":  {Time: maxTime + 1},
		"least time":      {Time: math.MinInt64},
		"greatest time":   {Time: math.MaxInt64},
		"key too long":    {Key: make([]byte, 257)},
		"value too long":  {Value: make([]byte, 4097)},
		"all of it wrong": {Time: -1, Key: make([]byte, 257), Value: make([]byte, 4097)},
	}
}

// P12.1: one record that may not be, wherever it stands, and none is put.
func TestPutArg(t *testing.T) {
	for what, bad := range wrong() {
		for i := range 4 {
			x := example(t)
			l := slices.Insert(records(20, 30, 40), i, bad)
			wantErr(t, what, x.Put(l...), api.ErrArg)
			wantIndex(t, what, x, 10, 15, rise(10, 5), rise(13, 9))
			wantErr(t, what, x.Put(records(9, 10)...), api.OK)
			wantIndex(t, what, x, 10, 17, rise(10, 5), rise(13, 9), rise(16, 10))
		}
	}
	x := indexOf(t, 0)
	good := api.Record{Time: maxTime, Key: make([]byte, 256), Value: make([]byte, 4096)}
	wantErr(t, "the greatest one", x.Put(good, good), api.OK)
	wantIndex(t, "the greatest one", x, 0, 2, rise(0, maxTime))
}

// P12.1: the last offset is MaxOffset; one record more, and none is put.
func TestPutLongEnd(t *testing.T) {
	x := indexOf(t, maxOffset-1, 4)
	wantErr(t, "two", x.Put(records(5, 6)...), api.ErrLong)
	wantIndex(t, "two", x, maxOffset-1, maxOffset, rise(maxOffset-1, 4))
	wantErr(t, "one", x.Put(records(5)...), api.OK)
	wantIndex(t, "one", x, maxOffset-1, maxOffset+1, rise(maxOffset-1, 4), rise(maxOffset, 5))
	for _, n := range []int64{0, 5, 6, maxTime} {
		wantErr(t, "full", x.Put(records(n)...), api.ErrLong)
	}
	wantErr(t, "nothing", x.Put(), api.OK)
	wantIndex(t, "full", x, maxOffset-1, maxOffset+1, rise(maxOffset-1, 4), rise(maxOffset, 5))
	wantErr(t, "Cut", x.Cut(maxOffset), api.OK)
	wantErr(t, "room again", x.Put(records(3)...), api.OK)
	wantIndex(t, "room again", x, maxOffset-1, maxOffset+1, rise(maxOffset-1, 4))
}

// P12.1: MaxRises rises go, one more does not, and none is put; records that are no rises go on.
func TestPutLongRises(t *testing.T) {
	x := indexOf(t, 7, span(100, maxRises-1)...)
	wantErr(t, "two", x.Put(records(maxTime-1, maxTime)...), api.ErrLong)
	if x.End() != 7+maxRises-1 || len(x.Rises()) != maxRises-1 {
		t.Errorf("two: %d %d", x.End(), len(x.Rises()))
	}
	wantErr(t, "one, and some that do not rise", x.Put(records(0, maxTime-1, 5, maxTime-1)...), api.OK)
	if x.End() != 7+maxRises+3 || len(x.Rises()) != maxRises {
		t.Errorf("one: %d %d", x.End(), len(x.Rises()))
	}
	wantUntil(t, "one", x, 7+maxRises, maxTime-1, true)
	wantUntil(t, "one", x, 7+maxRises-1, 100+maxRises-2, true)
	wantErr(t, "one more", x.Put(records(maxTime)...), api.ErrLong)
	wantErr(t, "one more behind others", x.Put(records(0, 0, maxTime)...), api.ErrLong)
	wantErr(t, "no rise", x.Put(records(maxTime-1, 0)...), api.OK)
	if x.End() != 7+maxRises+5 || len(x.Rises()) != maxRises {
		t.Errorf("no rise: %d %d", x.End(), len(x.Rises()))
	}
	wantFind(t, "full", x, maxTime, 0, false)
	y := indexOf(t, 0)
	wantErr(t, "all in one go", y.Put(records(span(0, maxRises+1)...)...), api.ErrLong)
	wantIndex(t, "all in one go", y, 0, 0)
	wantErr(t, "as many as go", y.Put(records(span(0, maxRises)...)...), api.OK)
	if len(y.Rises()) != maxRises {
		t.Errorf("as many as go: %d", len(y.Rises()))
	}
}

// P12.1: a record that may not be is told ahead of too many.
func TestPutOrder(t *testing.T) {
	x := indexOf(t, maxOffset, 1)
	wantErr(t, "end", x.Put(api.Record{Time: 1}, api.Record{Time: -1}), api.ErrArg)
	y := indexOf(t, 0, span(0, maxRises)...)
	wantErr(t, "rises", y.Put(api.Record{Time: maxTime}, api.Record{Time: -1}), api.ErrArg)
	for what, x := range nones() {
		wantErr(t, what, x.Put(api.Record{Time: -1}), api.ErrNil)
		wantErr(t, what, x.Put(api.Record{Time: 1}), api.ErrNil)
		wantErr(t, what, x.Put(), api.ErrNil)
	}
}

// P12.1: what is handed in is neither changed nor kept, spare room included.
func TestPutKeepsNothing(t *testing.T) {
	room := records(5, 3, 9, 8, 77)
	was := records(5, 3, 9, 8, 77)
	x := indexOf(t, 0)
	wantErr(t, "Put", x.Put(room[:3]...), api.OK)
	wantErr(t, "Put", x.Put(room[3:4:5]...), api.OK)
	for i := range room {
		if room[i].Time != was[i].Time || len(room[i].Key) != len(was[i].Key) || len(room[i].Value) != len(was[i].Value) {
			t.Errorf("changed: %v", room[i])
		}
	}
	for i := range room {
		room[i].Time = 1 << 40
	}
	wantIndex(t, "written over", x, 0, 4, rise(0, 5), rise(2, 9))
}
