package index_test

import (
	"math"
	"testing"

	"millrace/api"
	"millrace/index"
)

// P9.1: New, at the edges of a step.
func TestNew(t *testing.T) {
	for _, step := range []int{1, 2, 10, 4096, maxStep - 1, maxStep} {
		x, e := index.New(step)
		if x == nil || e != api.OK {
			t.Fatalf("New(%d): %v %v", step, x, e)
		}
		wantSpots(t, "new", x, step)
		wantFind(t, "new", x, math.MaxInt64, spot(0, 0), false)
		wantAt(t, "new", x, math.MaxInt, spot(0, 0), false)
		wantCut(t, "new", x, math.MinInt, 0)
	}
	for _, step := range []int{math.MinInt, -maxStep, -1, 0, maxStep + 1, 1 << 25, 1 << 32, 1<<32 + 1, math.MaxInt} {
		if x, e := index.New(step); x != nil || e != api.ErrArg {
			t.Errorf("New(%d): %v %v", step, x, e)
		}
	}
}

// P9.1: each index has spots of its own.
func TestNewApart(t *testing.T) {
	x, y := indexOf(t, 5, spot(1, 2)), indexOf(t, 6)
	wantSpots(t, "one", x, 5, spot(1, 2))
	wantSpots(t, "other", y, 6)
}

// P9.1: the chapter's calls of Add.
func TestAddExample(t *testing.T) {
	x := indexOf(t, 10)
	wantAdd(t, x, spot(0, 0), true, api.OK)
	wantAdd(t, x, spot(3, 9), false, api.OK)
	wantAdd(t, x, spot(5, 10), true, api.OK)
	wantAdd(t, x, spot(5, 30), false, api.ErrArg)
	wantAdd(t, x, spot(9, 21), true, api.OK)
	wantSpots(t, "example", x, 10, spot(0, 0), spot(5, 10), spot(9, 21))
}

// P9.1: the first spot may stand at any offset and place, whatever the step.
func TestAddFirst(t *testing.T) {
	for _, s := range []api.Spot{spot(0, 0), spot(0, 1), spot(1, 0), spot(0, api.MaxSize), spot(api.MaxOffset, 0), spot(api.MaxOffset, api.MaxSize), spot(7, 9)} {
		for _, step := range []int{1, 10, maxStep} {
			wantSpots(t, "first", indexOf(t, step, s), step, s)
		}
	}
}

// P9.1: a further one goes in from the step on, at the last one's place; one that does not changes nothing.
func TestAddStep(t *testing.T) {
	for _, c := range []struct {
		step, first, place int
		added              bool
	}{
		{1, 0, 1, true}, {1, 5, 6, true}, {1, 5, 900, true},
		{2, 0, 1, false}, {2, 0, 2, true}, {2, 7, 8, false}, {2, 7, 9, true}, {2, 7, 10, true},
		{10, 3, 12, false}, {10, 3, 13, true}, {10, 9, 10, false}, {10, 9, 18, false}, {10, 9, 19, true},
		{maxStep, 0, maxStep - 1, false}, {maxStep, 0, maxStep, true}, {maxStep, 1, maxStep, false},
		{maxStep - 1, 1, maxStep - 1, false}, {maxStep - 1, 1, maxStep, true},
	} {
		x := indexOf(t, c.step, spot(4, c.first))
		wantAdd(t, x, spot(5, c.place), c.added, api.OK)
		if c.added {
			wantSpots(t, "went in", x, c.step, spot(4, c.first), spot(5, c.place))
		} else {
			wantSpots(t, "did not", x, c.step, spot(4, c.first))
		}
	}
}

// P9.1: what is not far enough is no last spot: neither offsets nor places are held against it.
func TestAddBehindFalse(t *testing.T) {
	x := indexOf(t, 10, spot(2, 100))
	wantAdd(t, x, spot(50, 109), false, api.OK)
	wantAdd(t, x, spot(50, 109), false, api.OK)
	wantAdd(t, x, spot(3, 101), false, api.OK)
	wantAdd(t, x, spot(3, 110), true, api.OK)
	wantAdd(t, x, spot(4, 119), false, api.OK)
	wantAdd(t, x, spot(4, 120), true, api.OK)
	wantSpots(t, "behind", x, 10, spot(2, 100), spot(3, 110), spot(4, 120))
}

// P9.1: offsets and places that may not be, of an index with spots and of one without.
func TestAddArg(t *testing.T) {
	bad := []api.Spot{
		spot(-1, 50), spot(math.MinInt64, 50), spot(api.MaxOffset+1, 50), spot(math.MaxInt64, 50),
		spot(50, -1), spot(50, math.MinInt), spot(50, api.MaxSize+1), spot(50, math.MaxInt), spot(50, 1<<32), spot(50, 1<<32+50),
		spot(-1, -1), spot(api.MaxOffset+1, api.MaxSize+1), spot(-1, 0), spot(0, -1), spot(-1, api.MaxSize+1),
	}
	for _, s := range bad {
		x := indexOf(t, 10)
		wantAdd(t, x, s, false, api.ErrArg)
		wantSpots(t, "no spots", x, 10)
		wantAdd(t, x, spot(0, 0), true, api.OK)
		wantAdd(t, x, s, false, api.ErrArg)
		wantSpots(t, "one", x, 10, spot(0, 0))
	}
	// Of those that are too near, too.
	for _, s := range []api.Spot{spot(-1, 11), spot(api.MaxOffset+1, 11)} {
		wantAdd(t, indexOf(t, 10, spot(0, 10)), s, false, api.ErrArg)
	}
	wantAdd(t, indexOf(t, 10, spot(0, api.MaxSize)), spot(1, api.MaxSize+1), false, api.ErrArg)
}

// P9.1: an offset or a place that does not rise behind the last spot.
func TestAddRises(t *testing.T) {
	for _, s := range []api.Spot{
		spot(20, 30), spot(20, 40), spot(20, 31), spot(19, 40), spot(19, 31), spot(0, 100), spot(20, api.MaxSize),
		spot(21, 30), spot(21, 29), spot(21, 0), spot(api.MaxOffset, 30), spot(10, 20), spot(15, 25), spot(0, 0),
	} {
		x := indexOf(t, 10, spot(10, 20), spot(20, 30))
		wantAdd(t, x, s, false, api.ErrArg)
		wantSpots(t, "does not rise", x, 10, spot(10, 20), spot(20, 30))
	}
	x := indexOf(t, 10, spot(10, 20), spot(20, 30))
	wantAdd(t, x, spot(21, 31), false, api.OK)
	wantAdd(t, x, spot(21, 40), true, api.OK)
	wantAdd(t, x, spot(api.MaxOffset, api.MaxSize), true, api.OK)
	wantAdd(t, x, spot(api.MaxOffset, api.MaxSize), false, api.ErrArg)
	wantSpots(t, "rises", x, 10, spot(10, 20), spot(20, 30), spot(21, 40), spot(api.MaxOffset, api.MaxSize))
}

// P9.1, P9.3: of a nil index and of a zero one, whatever the spot.
func TestAddNone(t *testing.T) {
	for _, x := range nones() {
		for _, s := range []api.Spot{spot(0, 0), spot(5, 10), spot(-1, -1), spot(api.MaxOffset+1, 0)} {
			wantAdd(t, x, s, false, api.ErrNil)
		}
	}
	zero := &index.Index{}
	wantAdd(t, zero, spot(0, 0), false, api.ErrNil)
	if zero.Len() != 0 {
		t.Error("a zero one has taken a spot")
	}
}

// P9.1: behind a Cut the last spot is the one that stayed, or there is none.
func TestAddBehindCut(t *testing.T) {
	x := example(t)
	wantCut(t, "cut", x, 21, 1)
	wantAdd(t, x, spot(5, 22), false, api.ErrArg)
	wantAdd(t, x, spot(6, 10), false, api.ErrArg)
	wantAdd(t, x, spot(6, 19), false, api.OK)
	wantAdd(t, x, spot(6, 20), true, api.OK)
	wantSpots(t, "cut", x, 10, spot(0, 0), spot(5, 10), spot(6, 20))
	wantCut(t, "cut", x, 0, 3)
	wantSpots(t, "all cut", x, 10)
	wantAdd(t, x, spot(0, 0), true, api.OK)
	wantAdd(t, x, spot(1, 9), false, api.OK)
	wantCut(t, "cut", x, 0, 1)
	wantAdd(t, x, spot(9, 3), true, api.OK)
	wantAdd(t, x, spot(10, 12), false, api.OK)
	wantAdd(t, x, spot(10, 13), true, api.OK)
	wantSpots(t, "once more", x, 10, spot(9, 3), spot(10, 13))
}
