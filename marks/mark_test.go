package marks_test

import (
	"math"
	"math/rand"
	"testing"

	"millrace/marks"
)

// P14.1: the chapter's example.
func TestMarkExample(t *testing.T) {
	m := marks.NewMark(5)
	wantRaise(t, "above", m, 7, true)
	wantRaise(t, "the same", m, 7, false)
	wantRaise(t, "below", m, 6, false)
	wantMark(t, "example", m, 7)
}

// P14.1: a new mark is what it was made of, at all bounds.
func TestNewMark(t *testing.T) {
	for _, x := range []int64{0, 1, -1, 5, 1 << 53, math.MaxInt64, math.MinInt64, math.MinInt64 + 1} {
		m := marks.NewMark(x)
		wantMark(t, "new", m, x)
		wantRaise(t, "to itself", m, x, false)
		if x > math.MinInt64 {
			wantRaise(t, "one below", m, x-1, false)
		}
		wantMark(t, "not raised", m, x)
		if x < math.MaxInt64 {
			wantRaise(t, "one above", m, x+1, true)
			wantMark(t, "raised", m, x+1)
		}
	}
}

// P14.1: numbers that are far apart are held against each other all the same.
func TestMarkFar(t *testing.T) {
	m := marks.NewMark(math.MinInt64)
	wantRaise(t, "from least to greatest", m, math.MaxInt64, true)
	wantRaise(t, "back", m, math.MinInt64, false)
	wantMark(t, "greatest", m, math.MaxInt64)
	m = marks.NewMark(-1)
	wantRaise(t, "to least", m, math.MinInt64, false)
	wantRaise(t, "to greatest", m, math.MaxInt64, true)
	m = marks.NewMark(1)
	wantRaise(t, "to least", m, math.MinInt64, false)
	wantMark(t, "least", m, 1)
}

// P14.1: a zero mark is one of 0, a nil one answers false and 0.
func TestMarkZero(t *testing.T) {
	var m marks.Mark
	wantMark(t, "zero", &m, 0)
	wantRaise(t, "zero", &m, 0, false)
	wantRaise(t, "zero", &m, -1, false)
	wantRaise(t, "zero", &m, 1, true)
	wantMark(t, "zero, raised", &m, 1)

	var none *marks.Mark
	wantRaise(t, "nil", none, 1, false)
	wantRaise(t, "nil", none, math.MaxInt64, false)
	wantMark(t, "nil", none, 0)
}

// P14.1: marks stand apart.
func TestMarksApart(t *testing.T) {
	a, b := marks.NewMark(1), marks.NewMark(1)
	wantRaise(t, "one", a, 9, true)
	wantMark(t, "the other", b, 1)
	wantRaise(t, "the other", b, 9, true)
}

// P14.1: drawn numbers, held against the greatest so far.
func TestMarkDrawn(t *testing.T) {
	r := rand.New(rand.NewSource(14))
	for range 500 {
		greatest := r.Int63n(20) - 10
		m := marks.NewMark(greatest)
		for _, x := range drawn(r, 40, 30) {
			wantRaise(t, "drawn", m, x, x > greatest)
			greatest = max(greatest, x)
			wantMark(t, "drawn", m, greatest)
		}
		if t.Failed() {
			t.FailNow()
		}
	}
}
