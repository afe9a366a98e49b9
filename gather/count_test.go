package gather_test

import (
	"math"
	"math/rand"
	"slices"
	"testing"

	"millrace/api"
	"millrace/gather"
)

// wantLists asks Count, Plan and Together for what the chapter says of lists.
func wantLists(t *testing.T, what string, take int, l ...list) {
	t.Helper()
	e := wrong(take, l)
	count, plan := 0, []int(nil)
	if e == api.OK {
		count, plan = most(take, l), planned(take, l)
	}
	if n, f := gather.Count(take, l...); n != count || f != e {
		t.Errorf("%s: Count(%d) of %d: %d %v, want %d %v", what, take, len(l), n, f, count, e)
	}
	if p, f := gather.Plan(take, l...); !slices.Equal(p, plan) || f != e || e != api.OK && p != nil {
		t.Errorf("%s: Plan(%d) of %d: %v %v, want %v %v", what, take, len(l), p, f, plan, e)
	}
	e = wrong(1, l)
	records := all(l)
	if e == api.OK && len(l) > 0 {
		e = fits(records)
	}
	if e != api.OK {
		records = nil
	}
	if x, f := gather.Together(l...); !same(x, records) || f != e || e != api.OK && x != nil {
		t.Errorf("%s: Together of %d: %d records %v, want %d %v", what, len(l), len(x), f, len(records), e)
	}
}

// P6.1: the chapter's examples.
func TestExamples(t *testing.T) {
	l := bare(100)
	for _, x := range []struct {
		take int
		l    []list
		n    int
		plan []int
		e    api.Errno
	}{
		{9, times(3, l), 2, []int{2, 1}, api.OK},
		{1, times(3, l), 1, []int{1, 1, 1}, api.OK},
		{0, times(3, l), 0, nil, api.ErrArg},
		{9, nil, 0, nil, api.OK},
		{9, []list{{}}, 0, nil, api.ErrArg},
	} {
		if n, e := gather.Count(x.take, x.l...); n != x.n || e != x.e {
			t.Error("Count", x.take, len(x.l), n, e)
		}
		if p, e := gather.Plan(x.take, x.l...); !slices.Equal(p, x.plan) || e != x.e {
			t.Error("Plan", x.take, len(x.l), p, e)
		}
	}
	if x, e := gather.Together(l, l, l); len(x) != 0 || e != api.ErrLarge {
		t.Error(len(x), e)
	}
}

// P6.1: no lists: none taken, none planned, no records, whatever take is from 1 on.
func TestNoLists(t *testing.T) {
	for _, take := range []int{1, 2, api.MaxQueue, math.MaxInt} {
		if n, e := gather.Count(take); n != 0 || e != api.OK {
			t.Error(take, n, e)
		}
		if p, e := gather.Plan(take, []list{}...); len(p) != 0 || e != api.OK {
			t.Error(take, p, e)
		}
	}
	if x, e := gather.Together(); len(x) != 0 || e != api.OK {
		t.Error(x, e)
	}
	if _, e := gather.Count(0); e != api.ErrArg {
		t.Error(e)
	}
}

// P6.1: takes around how many there are, and takes that may not be.
func TestTakeBounds(t *testing.T) {
	for _, there := range []int{1, 2, 3, 7, api.MaxQueue} {
		l := times(there, bare(1))
		for _, take := range []int{1, 2, there - 1, there, there + 1, api.MaxQueue + 1, 1 << 40, math.MaxInt} {
			if take < 1 {
				continue
			}
			if n, e := gather.Count(take, l...); n != min(take, there) || e != api.OK {
				t.Error(there, take, n, e)
			}
			wantLists(t, "bounds", take, l...)
		}
		for _, take := range []int{0, -1, -2, -api.MaxQueue, math.MinInt, math.MinInt + 1} {
			if n, e := gather.Count(take, l...); n != 0 || e != api.ErrArg {
				t.Error(there, take, n, e)
			}
			wantLists(t, "no take", take, l...)
		}
	}
}

// P6.1: MaxQueue lists go, one more does not.
func TestMaxQueue(t *testing.T) {
	l := times(api.MaxQueue, bare(1))
	if n, e := gather.Count(math.MaxInt, l...); n != api.MaxQueue || e != api.OK {
		t.Error(n, e)
	}
	if p, e := gather.Plan(api.MaxQueue-1, l...); !slices.Equal(p, []int{api.MaxQueue - 1, 1}) || e != api.OK {
		t.Error(p, e)
	}
	if x, e := gather.Together(l...); len(x) != api.MaxQueue || e != api.OK {
		t.Error(len(x), e)
	}
	l = append(l, bare(1))
	if n, e := gather.Count(1, l...); n != 0 || e != api.ErrLong {
		t.Error(n, e)
	}
	if p, e := gather.Plan(1, l...); p != nil || e != api.ErrLong {
		t.Error(p, e)
	}
	if x, e := gather.Together(l...); x != nil || e != api.ErrLong {
		t.Error(len(x), e)
	}
	wantLists(t, "far more", 3, times(5000, bare(1))...)
}

// P6.1: lists that just go into one batch, by records and by bytes, and those that just do not.
func TestJustGoes(t *testing.T) {
	const room = api.MaxBatch - 20
	for _, x := range []struct {
		what string
		l    []list
		plan []int
	}{
		{"a whole batch of records", []list{bare(api.MaxRecords)}, []int{1}},
		{"then one", []list{bare(api.MaxRecords), bare(1)}, []int{1, 1}},
		{"one, then all others", []list{bare(1), bare(api.MaxRecords - 1)}, []int{2}},
		{"one, then a whole batch", []list{bare(1), bare(api.MaxRecords)}, []int{1, 1}},
		{"halves", []list{bare(128), bare(128), bare(128), bare(128)}, []int{2, 2}},
		{"halves and one", []list{bare(128), bare(129), bare(127), bare(1)}, []int{1, 2, 1}},
		{"a whole batch of bytes", []list{weighing(room)}, []int{1}},
		{"a least record's bytes free", []list{weighing(room - 12), bare(1)}, []int{2}},
		{"one byte too few free", []list{weighing(room - 11), bare(1)}, []int{1, 1}},
		{"a byte of a Key too many", []list{weighing(room - 12), {{Key: []byte{0}}}}, []int{1, 1}},
		{"a byte of a Value too many", []list{weighing(room - 12), {{Value: []byte{0}}}}, []int{1, 1}},
		{"both bytes go", []list{weighing(room - 14), {{Key: []byte{0}, Value: []byte{0}}}}, []int{2}},
		{"in thirds", []list{weighing(20000), weighing(20000), weighing(room - 40000)}, []int{3}},
		{"a byte above in thirds", []list{weighing(20000), weighing(20000), weighing(room - 39999)}, []int{2, 1}},
		{"many small behind a great one", append([]list{weighing(room - 24)}, times(3, bare(1))...), []int{3, 1}},
	} {
		for _, take := range []int{len(x.l), 9, math.MaxInt} {
			if p, e := gather.Plan(take, x.l...); !slices.Equal(p, x.plan) || e != api.OK {
				t.Error(x.what, p, e)
			}
			if n, e := gather.Count(take, x.l...); n != x.plan[0] || e != api.OK {
				t.Error(x.what, n, e)
			}
		}
		got, e := gather.Together(x.l...)
		if len(x.plan) == 1 && (e != api.OK || !same(got, all(x.l))) || len(x.plan) > 1 && (e != api.ErrLarge || got != nil) {
			t.Error(x.what, len(got), e)
		}
		wantLists(t, x.what, 9, x.l...)
	}
}

// P6.1: one that would go, but stands behind one that does not, is not taken.
func TestInOrder(t *testing.T) {
	l := []list{bare(200), bare(100), bare(1), bare(56)}
	if n, e := gather.Count(9, l...); n != 1 || e != api.OK {
		t.Error(n, e)
	}
	if p, e := gather.Plan(9, l...); !slices.Equal(p, []int{1, 3}) || e != api.OK {
		t.Error(p, e)
	}
}

// P6.1: the records of all, in order, with their Keys and Values.
func TestTogether(t *testing.T) {
	a, b, c := of(3, 10), list{{Time: 5, Key: []byte("k")}}, of(2, 90)
	got, e := gather.Together(a, b, c, a)
	if e != api.OK || len(got) != 9 || got[3].Time != 5 || string(got[3].Key) != "k" || !same(got, all([]list{a, b, c, a})) {
		t.Error(got, e)
	}
}

// P6.1: a list that may not be, or is too large, at each place, whether it would have been taken or not.
func TestRefusedList(t *testing.T) {
	l := []list{of(1, 0), of(200, 1), of(100, 7), of(2, 3)}
	for what, x := range refused() {
		if fits(x.l) != x.e {
			t.Fatal(what)
		}
		for place := range l {
			for _, take := range []int{1, 2, 9} {
				if n, e := gather.Count(take, with(l, place, x.l)...); n != 0 || e != x.e {
					t.Error(what, place, take, n, e)
				}
				wantLists(t, what, take, with(l, place, x.l)...)
			}
		}
		wantLists(t, what, 1, x.l)
		wantLists(t, what, 0, x.l)
	}
}

// P6.1: of several errors the one that the chapter names first, wherever they stand.
func TestErrorOrder(t *testing.T) {
	large, none, long := bare(api.MaxRecords+1), list{}, times(api.MaxQueue+1, bare(1))
	for _, x := range []struct {
		what string
		take int
		l    []list
		e    api.Errno
	}{
		{"large, then none", 1, []list{large, none}, api.ErrArg},
		{"none, then large", 1, []list{none, large}, api.ErrArg},
		{"no take, large", 0, []list{large}, api.ErrArg},
		{"no take, long", -1, long, api.ErrArg},
		{"long, large ahead", 1, with(long, 0, large), api.ErrLong},
		{"long, large last", 1, with(long, api.MaxQueue, large), api.ErrLong},
		{"long, none ahead", 1, with(long, 0, none), api.ErrArg},
		{"long, none last", 1, with(long, api.MaxQueue, none), api.ErrArg},
		{"long, large, none", 1, with(with(long, 0, large), api.MaxQueue, none), api.ErrArg},
		{"large at MaxQueue", 1, with(long, api.MaxQueue-1, large)[:api.MaxQueue], api.ErrLarge},
	} {
		if n, e := gather.Count(x.take, x.l...); n != 0 || e != x.e {
			t.Error("Count", x.what, n, e)
		}
		if p, e := gather.Plan(x.take, x.l...); p != nil || e != x.e {
			t.Error("Plan", x.what, p, e)
		}
		if x.take > 0 {
			if r, e := gather.Together(x.l...); r != nil || e != x.e {
				t.Error("Together", x.what, len(r), e)
			}
		}
	}
}

// P6.1: drawn lists, held to the chapter's words.
func TestDrawnLists(t *testing.T) {
	r := rand.New(rand.NewSource(61))
	wrongs := refused()
	names := make([]string, 0, len(wrongs))
	for what := range wrongs {
		names = append(names, what)
	}
	slices.Sort(names)
	for range 400 {
		l := drawn(r, 12)
		wantLists(t, "drawn", r.Intn(8), l...)
		if len(l) > 0 && r.Intn(3) == 0 {
			what := names[r.Intn(len(names))]
			wantLists(t, "drawn, "+what, 1+r.Intn(8), with(l, r.Intn(len(l)), wrongs[what].l)...)
		}
	}
}
