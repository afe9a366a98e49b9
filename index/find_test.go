package index_test

import (
	"math"
	"slices"
	"testing"

	"millrace/api"
	"millrace/index"
)

// P9.2: the chapter's calls of Find and At.
func TestFindExample(t *testing.T) {
	x := example(t)
	wantFind(t, "example", x, 4, spot(0, 0), true)
	wantFind(t, "example", x, 5, spot(5, 10), true)
	wantFind(t, "example", x, 99, spot(9, 21), true)
	wantAt(t, "example", x, 9, spot(0, 0), true)
	wantFind(t, "example", x, -1, spot(0, 0), false)
}

// P9.2: Find and At of each offset and place around spots, of indexes of 0 to 9 spots.
func TestFind(t *testing.T) {
	for n := range 10 {
		x, p := indexOf(t, 4), &plain{step: 4}
		for i := range n {
			s := spot(int64(5+3*i), 20+7*i)
			wantAdd(t, x, s, true, api.OK)
			p.add(s)
		}
		for i := -2; i < 100; i++ {
			s, ok := p.find(int64(i))
			wantFind(t, "around", x, int64(i), s, ok)
			s, ok = p.at(i)
			wantAt(t, "around", x, i, s, ok)
		}
		for _, i := range far() {
			s, ok := p.find(int64(i))
			wantFind(t, "far", x, int64(i), s, ok)
			s, ok = p.at(i)
			wantAt(t, "far", x, i, s, ok)
		}
	}
}

// P9.2: Find goes by offsets alone, At by places alone.
func TestFindApart(t *testing.T) {
	x := indexOf(t, 1, spot(1000, 1), spot(2000, 2), spot(3000, 3))
	wantFind(t, "great offsets", x, 3, spot(0, 0), false)
	wantFind(t, "great offsets", x, 2999, spot(2000, 2), true)
	wantAt(t, "great offsets", x, 2, spot(2000, 2), true)
	wantAt(t, "great offsets", x, 2999, spot(3000, 3), true)
	x = indexOf(t, 1000, spot(1, 1000), spot(2, 2000), spot(3, 3000))
	wantFind(t, "great places", x, 2, spot(2, 2000), true)
	wantAt(t, "great places", x, 3, spot(0, 0), false)
	wantAt(t, "great places", x, 2000, spot(2, 2000), true)
}

// P9.2: a spot at 0 0 is found, and told from none by true.
func TestFindZero(t *testing.T) {
	x := indexOf(t, 10, spot(0, 0))
	wantFind(t, "zero", x, 0, spot(0, 0), true)
	wantAt(t, "zero", x, 0, spot(0, 0), true)
	wantFind(t, "zero", x, -1, spot(0, 0), false)
	wantAt(t, "zero", x, -1, spot(0, 0), false)
	x = indexOf(t, 10, spot(api.MaxOffset, api.MaxSize))
	wantFind(t, "greatest", x, api.MaxOffset-1, spot(0, 0), false)
	wantFind(t, "greatest", x, api.MaxOffset, spot(api.MaxOffset, api.MaxSize), true)
	wantAt(t, "greatest", x, api.MaxSize-1, spot(0, 0), false)
	wantAt(t, "greatest", x, api.MaxSize, spot(api.MaxOffset, api.MaxSize), true)
}

// P9.2: Cut at each place around spots: what stays, and how many are gone; once more, none.
func TestCut(t *testing.T) {
	spots := []api.Spot{spot(1, 2), spot(2, 5), spot(9, 8), spot(10, 11)}
	for _, place := range append(far(), 2, 3, 4, 5, 6, 7, 8, 9, 10, 11, 12) {
		x, p := indexOf(t, 3, spots...), &plain{step: 3, spots: slices.Clone(spots)}
		wantCut(t, "cut", x, place, p.cut(place))
		wantSpots(t, "cut", x, 3, p.spots...)
		wantCut(t, "once more", x, place, 0)
		wantSpots(t, "once more", x, 3, p.spots...)
		for i := range 13 {
			s, ok := p.find(int64(i))
			wantFind(t, "cut", x, int64(i), s, ok)
			s, ok = p.at(i)
			wantAt(t, "cut", x, i, s, ok)
		}
	}
}

// P9.2: the chapter's Cut.
func TestCutExample(t *testing.T) {
	x := example(t)
	wantCut(t, "example", x, 10, 2)
	if n := x.Len(); n != 1 {
		t.Errorf("Len: %d", n)
	}
	want := append([]byte{10, 0, 0, 0, 1, 0, 0, 0}, make([]byte, 12)...)
	if b, e := x.Bytes(); !slices.Equal(b, want) || e != api.OK {
		t.Errorf("Bytes: %v %v", b, e)
	}
}

// P9.2, P9.3: of a nil index and of a zero one.
func TestFindNone(t *testing.T) {
	for what, x := range nones() {
		for _, i := range far() {
			wantFind(t, what, x, int64(i), spot(0, 0), false)
			wantAt(t, what, x, i, spot(0, 0), false)
			wantCut(t, what, x, i, 0)
		}
		if n := x.Len(); n != 0 {
			t.Errorf("%s: Len: %d", what, n)
		}
		all := x.All()
		if all == nil {
			t.Fatalf("%s: no iterator", what)
		}
		for s := range all {
			t.Errorf("%s: All: %v", what, s)
		}
	}
}

// P9.2: All goes in order, may be left at each spot, is not gone on with then, and is gone through as often as one likes.
func TestAll(t *testing.T) {
	spots := []api.Spot{spot(0, 0), spot(5, 10), spot(9, 21)}
	x := example(t)
	all := x.All()
	for leave := range spots {
		var got []api.Spot
		all(func(s api.Spot) bool {
			got = append(got, s)
			return len(got) <= leave
		})
		if !slices.Equal(got, spots[:leave+1]) {
			t.Errorf("left behind %d: %v", leave, got)
		}
	}
	for range 3 {
		if got := slices.Collect(all); !slices.Equal(got, spots) {
			t.Errorf("once more: %v", got)
		}
	}
	var nested []api.Spot
	for s := range all {
		for o := range all {
			nested = append(nested, s, o)
		}
	}
	if len(nested) != 18 || nested[8] != spots[1] || nested[9] != spots[1] {
		t.Errorf("one in the other: %v", nested)
	}
	for s := range indexOf(t, 3).All() {
		t.Errorf("of no spots: %v", s)
	}
}

// P9.2: All goes over the spots as they are when it is called, whatever is called later, between them too.
func TestAllAsCalled(t *testing.T) {
	want := []api.Spot{spot(0, 0), spot(5, 10), spot(9, 21)}
	for what, change := range map[string]func(x *index.Index){
		"Add":         func(x *index.Index) { x.Add(spot(20, 40)) },
		"Cut":         func(x *index.Index) { x.Cut(10) },
		"all cut":     func(x *index.Index) { x.Cut(0) },
		"cut and Add": func(x *index.Index) { x.Cut(0); x.Add(spot(7, 70)); x.Add(spot(8, 80)); x.Add(spot(9, 90)) },
	} {
		x := example(t)
		all := x.All()
		change(x)
		if got := slices.Collect(all); !slices.Equal(got, want) {
			t.Errorf("%s behind All: %v", what, got)
		}
		x = example(t)
		var got []api.Spot
		for s := range x.All() {
			got = append(got, s)
			change(x)
		}
		if !slices.Equal(got, want) {
			t.Errorf("%s between the spots: %v", what, got)
		}
	}
	x := indexOf(t, 10)
	all := x.All()
	wantAdd(t, x, spot(1, 1), true, api.OK)
	for s := range all {
		t.Errorf("of no spots: %v", s)
	}
	wantSpots(t, "called behind Add", x, 10, spot(1, 1))
}

// P9.2: looking changes nothing.
func TestLooking(t *testing.T) {
	x := example(t)
	for _, i := range []int{math.MinInt, -1, 0, 5, 10, 100, math.MaxInt} {
		x.Find(int64(i))
		x.At(i)
		x.Copy()
		x.Bytes()
	}
	wantCut(t, "behind all", x, 22, 0)
	wantSpots(t, "looked at", x, 10, spot(0, 0), spot(5, 10), spot(9, 21))
	wantAdd(t, x, spot(10, 30), false, api.OK)
	wantAdd(t, x, spot(10, 31), true, api.OK)
}
