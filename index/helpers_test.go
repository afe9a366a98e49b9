package index_test

import (
	"math"
	"slices"
	"testing"

	"millrace/api"
	"millrace/index"
)

// maxStep is the greatest step.
const maxStep = 1 << 24

// spot is an offset with its place.
func spot(offset int64, place int) api.Spot { return api.Spot{Offset: offset, Place: place} }

// indexOf is an index of that step with these spots, all of which go in.
func indexOf(t *testing.T, step int, spots ...api.Spot) *index.Index {
	t.Helper()
	x, e := index.New(step)
	if x == nil || e != api.OK {
		t.Fatalf("New(%d): %v %v", step, x, e)
	}
	for _, s := range spots {
		wantAdd(t, x, s, true, api.OK)
	}
	if t.Failed() {
		t.FailNow()
	}
	return x
}

// example is the chapter's index, behind its calls of Add.
func example(t *testing.T) *index.Index {
	t.Helper()
	return indexOf(t, 10, spot(0, 0), spot(5, 10), spot(9, 21))
}

// nones are a nil index and a zero one.
func nones() map[string]*index.Index {
	return map[string]*index.Index{"nil": nil, "zero": {}}
}

// wantAdd asks Add for this answer.
func wantAdd(t *testing.T, x *index.Index, s api.Spot, added bool, e api.Errno) {
	t.Helper()
	if ok, got := x.Add(s); ok != added || got != e {
		t.Errorf("Add(%v): %v %v, want %v %v", s, ok, got, added, e)
	}
}

// wantSpots asks all calls that tell of an index for these spots, and for this step.
func wantSpots(t *testing.T, what string, x *index.Index, step int, spots ...api.Spot) {
	t.Helper()
	if got := slices.Collect(x.All()); !slices.Equal(got, spots) {
		t.Errorf("%s: All: %v, want %v", what, got, spots)
	}
	if got := x.Len(); got != len(spots) {
		t.Errorf("%s: Len: %d, want %d", what, got, len(spots))
	}
	want := bytesOf(uint64(step), uint64(len(spots)), spots...)
	if got, e := x.Bytes(); !slices.Equal(got, want) || e != api.OK {
		t.Errorf("%s: Bytes: %v %v, want %v", what, got, e, want)
	}
}

// wantFind asks Find for this spot.
func wantFind(t *testing.T, what string, x *index.Index, offset int64, want api.Spot, found bool) {
	t.Helper()
	if s, ok := x.Find(offset); s != want || ok != found {
		t.Errorf("%s: Find(%d): %v %v, want %v %v", what, offset, s, ok, want, found)
	}
}

// wantAt asks At for this spot.
func wantAt(t *testing.T, what string, x *index.Index, place int, want api.Spot, found bool) {
	t.Helper()
	if s, ok := x.At(place); s != want || ok != found {
		t.Errorf("%s: At(%d): %v %v, want %v %v", what, place, s, ok, want, found)
	}
}

// wantCut asks Cut for so many.
func wantCut(t *testing.T, what string, x *index.Index, place, want int) {
	t.Helper()
	if got := x.Cut(place); got != want {
		t.Errorf("%s: Cut(%d): %d, want %d", what, place, got, want)
	}
}

// wantRefused asks Read for its error, with nothing beside it.
func wantRefused(t *testing.T, what string, b []byte) {
	t.Helper()
	if x, e := index.Read(b); x != nil || e != api.ErrIndex {
		t.Errorf("%s: Read(%v): %v %v", what, b, x, e)
	}
}

// wantRead asks Read for the index of this step, with these spots.
func wantRead(t *testing.T, what string, step int, spots ...api.Spot) {
	t.Helper()
	x, e := index.Read(bytesOf(uint64(step), uint64(len(spots)), spots...))
	if e != api.OK {
		t.Errorf("%s: Read: %v", what, e)
		return
	}
	wantSpots(t, what, x, step, spots...)
}

// bytesOf are the bytes of the chapter's words, whether an index may have them or not.
func bytesOf(step, count uint64, spots ...api.Spot) []byte {
	b := append(number(step, 4), number(count, 4)...)
	for _, s := range spots {
		b = append(append(b, number(uint64(s.Offset), 8)...), number(uint64(s.Place), 4)...)
	}
	return b
}

// number is a number in so many bytes, the lowest one first.
func number(x uint64, size int) []byte {
	b := make([]byte, size)
	for i := range b {
		b[i] = byte(x % 256)
		x /= 256
	}
	return b
}

// far are offsets and places at which a call must end, too.
func far() []int {
	return []int{math.MinInt, math.MinInt + 1, -1 << 53, -1 << 24, -1, 0, 1, 1 << 24, 1<<24 + 1, 1 << 31, 1 << 32, 1 << 53, 1<<53 + 1, math.MaxInt - 1, math.MaxInt}
}
