package times_test

import (
	"testing"

	"millrace/api"
	"millrace/times"
)

// P12.4: the chapter's calls of Cut and Join.
func TestCutExample(t *testing.T) {
	x := example(t)
	wantErr(t, "Cut(13)", x.Cut(13), api.OK)
	wantIndex(t, "Cut(13)", x, 10, 13, rise(10, 5))
	wantErr(t, "Cut(9)", x.Cut(9), api.ErrRange)
	wantErr(t, "Cut(14)", x.Cut(14), api.ErrRange)
	wantIndex(t, "refused", x, 10, 13, rise(10, 5))
	wantErr(t, "Join", indexOf(t, 0).Join(indexOf(t, 1)), api.ErrRange)
}

// P12.4: Cut at each offset, and at those that are not there.
func TestCut(t *testing.T) {
	for end := int64(8); end < 18; end++ {
		x, p := example(t), &plain{base: 10, times: []int64{5, 3, 5, 9, 1}}
		want := p.cut(end)
		wantErr(t, "Cut", x.Cut(end), want)
		wantIndex(t, "Cut", x, 10, p.end(), p.rises()...)
	}
	for _, end := range far() {
		x := example(t)
		wantErr(t, "far", x.Cut(end), api.ErrRange)
		wantIndex(t, "far", x, 10, 15, rise(10, 5), rise(13, 9))
	}
	none := indexOf(t, maxOffset)
	wantErr(t, "no records", none.Cut(maxOffset), api.OK)
	wantErr(t, "no records", none.Cut(maxOffset+1), api.ErrRange)
	wantErr(t, "no records", none.Cut(maxOffset-1), api.ErrRange)
	wantIndex(t, "no records", none, maxOffset, maxOffset)
}

// P12.4: behind a Cut what is gone is held against nothing.
func TestCutGone(t *testing.T) {
	x := example(t)
	wantErr(t, "Cut", x.Cut(13), api.OK)
	wantFind(t, "Cut", x, 9, 0, false)
	wantUntil(t, "Cut", x, 99, 5, true)
	wantErr(t, "Put", x.Put(records(6, 7)...), api.OK)
	wantIndex(t, "Put", x, 10, 15, rise(10, 5), rise(13, 6), rise(14, 7))
	wantErr(t, "Cut", x.Cut(10), api.OK)
	wantIndex(t, "all gone", x, 10, 10)
	wantUntil(t, "all gone", x, 99, 0, false)
	wantErr(t, "Put", x.Put(records(0, 0, 1)...), api.OK)
	wantIndex(t, "Put", x, 10, 13, rise(10, 0), rise(12, 1))
	wantErr(t, "Cut at the end", x.Cut(13), api.OK)
	wantIndex(t, "Cut at the end", x, 10, 13, rise(10, 0), rise(12, 1))
}

// P12.4: of MaxRises rises, and room behind the Cut.
func TestCutMany(t *testing.T) {
	x := indexOf(t, 0, span(0, maxRises)...)
	wantErr(t, "full", x.Put(records(maxTime)...), api.ErrLong)
	wantErr(t, "Cut", x.Cut(maxRises-1), api.OK)
	wantErr(t, "room for one", x.Put(records(maxTime-1, maxTime)...), api.ErrLong)
	wantErr(t, "room for one", x.Put(records(maxTime)...), api.OK)
	wantUntil(t, "room for one", x, maxRises-1, maxTime, true)
	wantErr(t, "full", x.Put(records(maxTime, maxTime)...), api.OK)
	if len(x.Rises()) != maxRises || x.End() != maxRises+2 {
		t.Errorf("%d rises, end %d", len(x.Rises()), x.End())
	}
}

// P12.4: Join of rises above, at and below those that are there; the other one stays.
func TestJoin(t *testing.T) {
	for _, c := range []struct {
		x, o  []int64
		rises []api.Rise
	}{
		{nil, nil, nil},
		{nil, []int64{4, 5}, []api.Rise{rise(6, 4), rise(7, 5)}},
		{nil, []int64{0, 0}, []api.Rise{rise(6, 0)}},
		{[]int64{4, 3}, nil, []api.Rise{rise(6, 4)}},
		{[]int64{4, 3}, []int64{3, 4}, []api.Rise{rise(6, 4)}},
		{[]int64{4, 3}, []int64{5, 1, 6}, []api.Rise{rise(6, 4), rise(8, 5), rise(10, 6)}},
		{[]int64{4, 3}, []int64{1, 4, 3, 9}, []api.Rise{rise(6, 4), rise(11, 9)}},
		{[]int64{4, 8}, []int64{5, 6, 7, 8, 9}, []api.Rise{rise(6, 4), rise(7, 8), rise(12, 9)}},
		{[]int64{maxTime}, []int64{maxTime, maxTime}, []api.Rise{rise(6, maxTime)}},
	} {
		x := indexOf(t, 6, c.x...)
		from := 6 + int64(len(c.x))
		o := indexOf(t, from, c.o...)
		was := o.Copy()
		wantErr(t, "Join", x.Join(o), api.OK)
		wantIndex(t, "Join", x, 6, from+int64(len(c.o)), c.rises...)
		wantSame(t, "the other one", o, was, true)
	}
}

// P12.4: Join goes on apart: neither sees what comes to the other.
func TestJoinApart(t *testing.T) {
	x, o := indexOf(t, 0, 1), indexOf(t, 1, 2, 3)
	wantErr(t, "Join", x.Join(o), api.OK)
	wantErr(t, "Cut", o.Cut(1), api.OK)
	wantErr(t, "Put", o.Put(records(50, 60)...), api.OK)
	wantIndex(t, "x", x, 0, 3, rise(0, 1), rise(1, 2), rise(2, 3))
	wantErr(t, "Cut", x.Cut(1), api.OK)
	wantErr(t, "Put", x.Put(records(7, 8)...), api.OK)
	wantIndex(t, "o", o, 1, 3, rise(1, 50), rise(2, 60))
	empty, full := indexOf(t, 1), indexOf(t, 1, 2, 3)
	wantErr(t, "Join", empty.Join(full), api.OK)
	wantErr(t, "Put", empty.Put(records(4)...), api.OK)
	wantErr(t, "Put", full.Put(records(9)...), api.OK)
	wantIndex(t, "x", empty, 1, 4, rise(1, 2), rise(2, 3), rise(3, 4))
	wantIndex(t, "o", full, 1, 4, rise(1, 2), rise(2, 3), rise(3, 9))
}

// P12.4: an index may be joined to itself, if it has no records.
func TestJoinItself(t *testing.T) {
	for _, base := range []int64{0, 7, maxOffset} {
		x := indexOf(t, base)
		wantErr(t, "itself", x.Join(x), api.OK)
		wantIndex(t, "itself", x, base, base)
		wantErr(t, "Put", x.Put(records(3)...), api.OK)
		wantErr(t, "itself", x.Join(x), api.ErrRange)
		wantIndex(t, "itself", x, base, base+1, rise(base, 3))
	}
}

// P12.4: a base that is not the end, from either side of it.
func TestJoinRange(t *testing.T) {
	for _, base := range []int64{0, 9, 10, 14, 16, 17, maxOffset} {
		for _, l := range [][]int64{nil, {20, 30}} {
			if base == maxOffset {
				l = nil
			}
			x, o := example(t), indexOf(t, base, l...)
			was := o.Copy()
			wantErr(t, "Join", x.Join(o), api.ErrRange)
			wantIndex(t, "Join", x, 10, 15, rise(10, 5), rise(13, 9))
			wantSame(t, "the other one", o, was, true)
		}
	}
	full := indexOf(t, maxOffset, 1)
	wantErr(t, "nothing can come behind the last offset", full.Join(indexOf(t, maxOffset)), api.ErrRange)
	wantErr(t, "nor it itself", full.Join(full), api.ErrRange)
}

// P12.4: up to the last offset.
func TestJoinEnd(t *testing.T) {
	x, o := indexOf(t, maxOffset-1, 1), indexOf(t, maxOffset, 2)
	wantErr(t, "Join", x.Join(o), api.OK)
	wantIndex(t, "Join", x, maxOffset-1, maxOffset+1, rise(maxOffset-1, 1), rise(maxOffset, 2))
}

// P12.4: MaxRises rises in both go, one more does not; those that are not above are not counted.
func TestJoinLong(t *testing.T) {
	const half = maxRises / 2
	x, o := indexOf(t, 0, span(0, half)...), indexOf(t, half, span(half, half+1)...)
	was := o.Copy()
	wantErr(t, "one too many", x.Join(o), api.ErrLong)
	if x.End() != half || len(x.Rises()) != half {
		t.Errorf("one too many: %d %d", x.End(), len(x.Rises()))
	}
	wantSame(t, "the other one", o, was, true)
	wantErr(t, "Put behind it", x.Copy().Put(records(half)...), api.OK)
	wantErr(t, "Cut", o.Cut(maxRises), api.OK)
	wantErr(t, "as many as go", x.Join(o), api.OK)
	wantSame(t, "as many as go", x, indexOf(t, 0, span(0, maxRises)...), true)
	low := indexOf(t, 0, span(1, maxRises)...)
	wantErr(t, "none is above", low.Join(indexOf(t, maxRises, span(0, maxRises)...)), api.OK)
	if low.End() != 2*maxRises || len(low.Rises()) != maxRises {
		t.Errorf("none is above: %d %d", low.End(), len(low.Rises()))
	}
	wantErr(t, "one is above", low.Join(indexOf(t, 2*maxRises, 0, maxTime)), api.ErrLong)
	if low.End() != 2*maxRises {
		t.Errorf("one is above: %d", low.End())
	}
}

// P12.4: of a nil index and of a zero one, on both sides, ahead of all else.
func TestCutNone(t *testing.T) {
	for what, x := range nones() {
		for _, n := range far() {
			wantErr(t, what, x.Cut(n), api.ErrNil)
		}
		for _, o := range []*times.Index{nil, {}, x, indexOf(t, 0), indexOf(t, 5, 1)} {
			wantErr(t, what, x.Join(o), api.ErrNil)
		}
		y := indexOf(t, 0)
		wantErr(t, what, y.Join(x), api.ErrNil)
		wantIndex(t, what, y, 0, 0)
		y = example(t)
		wantErr(t, what, y.Join(x), api.ErrNil)
		wantIndex(t, what, y, 10, 15, rise(10, 5), rise(13, 9))
	}
	zero := &times.Index{}
	zero.Put(records(1)...)
	zero.Cut(0)
	zero.Join(indexOf(t, 0, 1))
	wantSame(t, "a zero one stays so", zero, nil, true)
}
