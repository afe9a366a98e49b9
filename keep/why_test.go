package keep_test

import (
	"math"
	"testing"

	"millrace/api"
	"millrace/keep"
)

// P13.3: the chapter's calls of Why.
func TestWhyExample(t *testing.T) {
	p := example()
	wantWhy(t, "example", rule(50, 0, 0, 99), 12, 2, p, api.WhyLast)
	wantWhy(t, "example", rule(50, 0, 0, 10), 12, 1, p, api.WhyBelow)
	wantWhy(t, "example", rule(0, 3, 0, 99), 12, 1, p, api.WhyStays)
}

// P13.3: of several reasons the first one is told.
func TestWhyFirst(t *testing.T) {
	p := example()
	for _, c := range []struct {
		r    api.Rule
		want api.Why
	}{
		{rule(1, 1, 1, 99), api.WhyBytes}, {rule(1, 1, 0, 99), api.WhyBytes}, {rule(1, 0, 1, 99), api.WhyBytes}, {rule(1, 0, 0, 99), api.WhyBytes},
		{rule(0, 1, 1, 99), api.WhyAge}, {rule(0, 1, 0, 99), api.WhyAge}, {rule(999, 1, 1, 99), api.WhyAge},
		{rule(0, 0, 1, 99), api.WhyPieces}, {rule(999, 99, 1, 99), api.WhyPieces},
		{rule(0, 0, 0, 99), api.WhyStays}, {rule(999, 99, 9, 99), api.WhyStays},
		{rule(1, 1, 1, 9), api.WhyBelow}, {rule(0, 0, 0, 9), api.WhyBelow}, {rule(999, 99, 9, 0), api.WhyBelow},
	} {
		wantWhy(t, "the first one", c.r, 12, 0, p, c.want)
		wantWhy(t, "the only one", c.r, 12, 0, p[:1], api.WhyLast)
	}
}

// P13.3: the last one is told to be that, whatever else is so.
func TestWhyLast(t *testing.T) {
	p := example()
	for _, r := range []api.Rule{{}, rule(1, 1, 1, 99), rule(1, 1, 1, 0), rule(0, 0, 0, maxOffset)} {
		for n := 1; n <= 3; n++ {
			wantWhy(t, "last", r, 99, n-1, p[:n], api.WhyLast)
		}
	}
}

// P13.3: behind one that may not go, those that may are told WhyAhead, the others as they would be anyhow.
func TestWhyAhead(t *testing.T) {
	p := []api.Piece{piece(0, 0, 1), piece(10, 0, 50), piece(20, 0, 1), piece(30, 0, 51), piece(40, 0, 2), piece(50, 0, 0), piece(60, 0, 1)}
	for at, want := range []api.Why{api.WhyAge, api.WhyStays, api.WhyAhead, api.WhyStays, api.WhyAhead, api.WhyBelow, api.WhyLast} {
		wantWhy(t, "by age", rule(0, 5, 0, 59), 20, at, p, want)
	}
	p[0].Last = 30
	for at, want := range []api.Why{api.WhyPieces, api.WhyStays, api.WhyAhead, api.WhyStays, api.WhyAhead, api.WhyAhead, api.WhyLast} {
		wantWhy(t, "by pieces and age", rule(0, 17, 6, 60), 20, at, p, want)
	}
	for at, want := range []api.Why{api.WhyStays, api.WhyStays, api.WhyAhead, api.WhyStays, api.WhyAhead, api.WhyAhead, api.WhyLast} {
		wantWhy(t, "by age, the first one young", rule(0, 17, 0, 60), 20, at, p, want)
	}
	for at, want := range []api.Why{api.WhyStays, api.WhyStays, api.WhyStays, api.WhyStays, api.WhyStays, api.WhyStays, api.WhyLast} {
		wantWhy(t, "by nothing", rule(0, 0, 0, 60), 20, at, p, want)
	}
}

// P13.3: a place that is not there is ErrArg, behind Goes' errors.
func TestWhyPlace(t *testing.T) {
	p := example()
	for _, at := range []int{-1, 3, 4, -3, math.MinInt, math.MaxInt, 1 << 32} {
		for n := range 4 {
			if w, e := keep.Why(rule(1, 1, 1, 99), 12, at, p[:n]...); w != 0 || e != api.ErrArg {
				t.Errorf("Why at %d of %d: %d %v", at, n, w, e)
			}
		}
		if w, e := keep.Why(rule(1, 1, 1, 99), 12, at, row(maxFiles+1, 0, 0)...); w != 0 || e != api.ErrLong {
			t.Errorf("Why at %d of too many: %d %v", at, w, e)
		}
	}
	if w, e := keep.Why(rule(1, 1, 1, 99), 12, 0); w != 0 || e != api.ErrArg {
		t.Errorf("Why of none: %d %v", w, e)
	}
	if w, e := keep.Why(rule(1, 1, 1, 99), 12, 2, p[:2]...); w != 0 || e != api.ErrArg {
		t.Errorf("Why at the room behind: %d %v", w, e)
	}
}
