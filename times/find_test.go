package times_test

import (
	"slices"
	"testing"

	"millrace/api"
	"millrace/times"
)

// P12.2: the chapter's calls of Find and Until.
func TestFindExample(t *testing.T) {
	x := example(t)
	wantFind(t, "example", x, 0, 10, true)
	wantFind(t, "example", x, 6, 13, true)
	wantFind(t, "example", x, 10, 0, false)
	wantUntil(t, "example", x, 12, 5, true)
	wantUntil(t, "example", x, 9, 0, false)
	wantUntil(t, "example", x, 99, 9, true)
}

// P12.2: Find and Until of each number around, of indexes of 0 to 9 rises.
func TestFind(t *testing.T) {
	for n := range 10 {
		p := &plain{base: 20}
		for i := range n {
			p.put(int64(10+3*i), int64(3*i), int64(10+3*i))
		}
		x := indexOf(t, 20, p.times...)
		if got := len(x.Rises()); got != n {
			t.Fatalf("%d rises, want %d", got, n)
		}
		for k := int64(-3); k < 60; k++ {
			wantBoth(t, x, p, k)
		}
		for _, k := range far() {
			wantBoth(t, x, p, k)
		}
	}
}

// wantBoth asks Find and Until for what the chapter's words say.
func wantBoth(t *testing.T, x *times.Index, p *plain, k int64) {
	t.Helper()
	offset, found := p.find(k)
	wantFind(t, "plain", x, k, offset, found)
	time, found := p.until(k)
	wantUntil(t, "plain", x, k, time, found)
}

// P12.2: at the edges of times and offsets.
func TestFindEdges(t *testing.T) {
	x := indexOf(t, maxOffset-1, 0, maxTime)
	for _, n := range []int64{-1 << 63, -1, 0} {
		wantFind(t, "from the first one on", x, n, maxOffset-1, true)
	}
	wantFind(t, "above the first", x, 1, maxOffset, true)
	wantFind(t, "greatest", x, maxTime, maxOffset, true)
	wantFind(t, "above", x, maxTime+1, 0, false)
	wantFind(t, "above", x, 1<<63-1, 0, false)
	wantUntil(t, "below", x, maxOffset-2, 0, false)
	wantUntil(t, "below", x, -1<<63, 0, false)
	wantUntil(t, "first", x, maxOffset-1, 0, true)
	wantUntil(t, "last", x, maxOffset, maxTime, true)
	wantUntil(t, "above", x, maxOffset+1, maxTime, true)
	wantUntil(t, "above", x, 1<<63-1, maxTime, true)
	zero := indexOf(t, 0, 0, 0)
	wantFind(t, "time 0", zero, 0, 0, true)
	wantUntil(t, "time 0", zero, 0, 0, true)
	wantUntil(t, "time 0", zero, -1, 0, false)
}

// P12.2, P12.3: of a nil index and of a zero one.
func TestFindNone(t *testing.T) {
	for what, x := range nones() {
		for _, n := range far() {
			wantFind(t, what, x, n, 0, false)
			wantUntil(t, what, x, n, 0, false)
		}
		if x.Base() != 0 || x.End() != 0 || len(x.Rises()) != 0 {
			t.Errorf("%s: %d %d %v", what, x.Base(), x.End(), x.Rises())
		}
		if x.All() == nil {
			t.Fatalf("%s: All is not there", what)
		}
		for r := range x.All() {
			t.Errorf("%s: All: %v", what, r)
		}
	}
}

// P12.3: what Rises answers is new memory, spare room included.
func TestRisesNew(t *testing.T) {
	x := example(t)
	one, two := x.Rises(), x.Rises()
	for i := range one[:cap(one)] {
		one[:cap(one)][i] = rise(-7, -7)
	}
	if !slices.Equal(two, []api.Rise{rise(10, 5), rise(13, 9)}) {
		t.Errorf("another answer has changed: %v", two)
	}
	wantIndex(t, "written over", x, 10, 15, rise(10, 5), rise(13, 9))
	wantErr(t, "Put", x.Put(records(12, 13)...), api.OK)
	for _, r := range one[:cap(one)] {
		if r != rise(-7, -7) {
			t.Errorf("Put has written into an answer: %v", r)
		}
	}
}

// P12.3: All tells the rises as they were when it was called, whatever comes behind it.
func TestAllStays(t *testing.T) {
	want := []api.Rise{rise(10, 5), rise(13, 9)}
	for what, change := range map[string]func(x *times.Index){
		"Put":                 func(x *times.Index) { x.Put(records(10, 11)...) },
		"Cut":                 func(x *times.Index) { x.Cut(10) },
		"Cut and Put":         func(x *times.Index) { x.Cut(10); x.Put(records(77, 88, 99)...) },
		"Cut of one and Put":  func(x *times.Index) { x.Cut(13); x.Put(records(77, 88, 99)...) },
		"Put, Cut and Put":    func(x *times.Index) { x.Put(records(10, 11)...); x.Cut(11); x.Put(records(60, 70, 80)...) },
		"a Put that is wrong": func(x *times.Index) { x.Put(append(records(60, 70), api.Record{Time: -1})...) },
		"Join":                func(x *times.Index) { x.Cut(12); x.Join(indexOf(t, 12, 50, 60)) },
	} {
		x := example(t)
		all := x.All()
		change(x)
		if got := slices.Collect(all); !slices.Equal(got, want) {
			t.Errorf("%s: All: %v, want %v", what, got, want)
		}
	}
	empty := indexOf(t, 3)
	all := empty.All()
	empty.Put(records(1)...)
	if got := slices.Collect(all); len(got) != 0 {
		t.Errorf("All of none: %v", got)
	}
}

// P12.3: All may be left early, gone over again, and gone over within itself.
func TestAllLeft(t *testing.T) {
	want := []api.Rise{rise(0, 1), rise(1, 2), rise(2, 3)}
	all := indexOf(t, 0, 1, 2, 3).All()
	for most := range 4 {
		var got []api.Rise
		for r := range all {
			if len(got) == most {
				break
			}
			got = append(got, r)
		}
		if !slices.Equal(got, want[:most]) {
			t.Errorf("left behind %d: %v", most, got)
		}
	}
	n := 0
	for range all {
		if got := slices.Collect(all); !slices.Equal(got, want) {
			t.Errorf("within itself: %v", got)
		}
		n++
	}
	if n != 3 {
		t.Errorf("gone over %d", n)
	}
}

// P12.3: what is changed while All is gone over is not seen.
func TestAllWhileChanged(t *testing.T) {
	x := indexOf(t, 0, 1, 2, 3)
	var got []api.Rise
	for r := range x.All() {
		got = append(got, r)
		x.Cut(1)
		x.Put(records(50, 60, 70)...)
	}
	if !slices.Equal(got, []api.Rise{rise(0, 1), rise(1, 2), rise(2, 3)}) {
		t.Errorf("All: %v", got)
	}
	wantIndex(t, "changed", x, 0, 4, rise(0, 1), rise(1, 50), rise(2, 60), rise(3, 70))
}
