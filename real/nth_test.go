package real_test

import (
	"math"
	"slices"
	"testing"

	"millrace/api"
	"millrace/real"
)

func wantOutermost(t *testing.T, l []float64, least, greatest float64, ok bool) {
	t.Helper()
	x, there := real.Least(l...)
	wantFloat(t, "Least", x, least)
	y, alsoThere := real.Greatest(l...)
	wantFloat(t, "Greatest", y, greatest)
	if there != ok || alsoThere != ok {
		t.Errorf("of %v: %v %v, want %v", l, there, alsoThere, ok)
	}
}

// P3.5
func TestLeastGreatest(t *testing.T) {
	nan, negative := math.NaN(), math.Copysign(0, -1)
	wantOutermost(t, nil, 0, 0, false)
	wantOutermost(t, []float64{}, 0, 0, false)
	wantOutermost(t, []float64{nan, 3}, 3, nan, true)
	wantOutermost(t, []float64{3, nan}, 3, nan, true)
	wantOutermost(t, []float64{3, nan, 2, 4}, 2, nan, true)
	wantOutermost(t, nans(), nan, nan, true)
	wantOutermost(t, []float64{0, negative}, negative, 0, true)
	wantOutermost(t, []float64{negative, 0}, negative, 0, true)
	wantOutermost(t, []float64{negative}, negative, negative, true)
	wantOutermost(t, []float64{5}, 5, 5, true)
	wantOutermost(t, []float64{-5}, -5, -5, true)
	wantOutermost(t, []float64{math.Inf(1), math.Inf(-1)}, math.Inf(-1), math.Inf(1), true)
	wantOutermost(t, []float64{math.MaxFloat64, -math.MaxFloat64, 1}, -math.MaxFloat64, math.MaxFloat64, true)
	for _, l := range lists() {
		for seed := range int64(5) {
			if n := len(l); n > 0 {
				wantOutermost(t, mixed(l, seed), l[0], l[n-1], true)
			}
		}
	}
}

// P3.5: Least and Greatest have no bound.
func TestLeastGreatestLong(t *testing.T) {
	l := make([]float64, api.MaxFloats+2)
	l[api.MaxFloats], l[api.MaxFloats+1] = -1, 1
	wantOutermost(t, l, -1, 1, true)
}

func wantNth(t *testing.T, n int, l []float64, want float64, err api.Errno) {
	t.Helper()
	x, e := real.Nth(n, l...)
	wantErr(t, "Nth", e, err)
	wantFloat(t, "Nth", x, want)
}

// P3.5
func TestNth(t *testing.T) {
	wantNth(t, 1, []float64{5, 4, 3}, 4, api.OK)
	wantNth(t, 3, []float64{5, 4, 3}, 0, api.ErrRange)
	for _, l := range lists() {
		for seed := range int64(3) {
			m := mixed(l, seed)
			before := slices.Clone(m)
			for n, want := range l {
				wantNth(t, n, m, want, api.OK)
			}
			for _, n := range []int{-1, len(l), len(l) + 1, math.MinInt, math.MaxInt} {
				wantNth(t, n, m, 0, api.ErrRange)
			}
			wantFloats(t, "handed in", m, before)
		}
	}
}

// P3.5: none, as many as may be, and one more, at which it does not matter what is asked for.
func TestNthBounds(t *testing.T) {
	wantNth(t, 0, nil, 0, api.ErrRange)
	wantNth(t, -1, nil, 0, api.ErrRange)
	l := make([]float64, api.MaxFloats+1)
	for i := range l {
		l[i] = float64(len(l) - i)
	}
	for _, n := range []int{-1, 0, 1, api.MaxFloats, api.MaxFloats + 1, math.MinInt, math.MaxInt} {
		wantNth(t, n, l, 0, api.ErrLong)
	}
	l = l[1:]
	wantNth(t, 0, l, 1, api.OK)
	wantNth(t, api.MaxFloats-1, l, api.MaxFloats, api.OK)
	wantNth(t, -1, l, 0, api.ErrRange)
	wantNth(t, api.MaxFloats, l, 0, api.ErrRange)
}
