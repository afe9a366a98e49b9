package keep_test

import (
	"math/rand"
	"testing"

	"millrace/api"
	"millrace/keep"
)

// P13.1 to P13.5: drawn rules, times and pieces, held to the chapter's words, and to what follows.
func TestDrawn(t *testing.T) {
	r := rand.New(rand.NewSource(13))
	reasons := map[api.Why]int{}
	for range 60000 {
		l, x, now := drawnPieces(r), drawnRule(r), int64(r.Intn(30))
		for at := range l {
			w := why(x, now, at, l)
			reasons[w]++
			wantWhy(t, "drawn", x, now, at, l, w)
		}
		wantGoes(t, "drawn", x, now, l, goes(x, now, l))
		n, there := next(x, now, l, span(80))
		wantNext(t, "drawn", x, now, l, n, there)
		wantFollows(t, r, x, now, l)
		if t.Failed() {
			t.FailNow()
		}
	}
	for w := api.WhyStays; w <= api.WhyAhead; w++ {
		if reasons[w] < 1000 {
			t.Errorf("reason %d was told %d times", w, reasons[w])
		}
	}
}

// span is the numbers below n.
func span(n int) []int64 {
	l := make([]int64, n)
	for i := range l {
		l[i] = int64(i)
	}
	return l
}

// drawnPieces are few pieces of small numbers.
func drawnPieces(r *rand.Rand) []api.Piece {
	l := make([]api.Piece, r.Intn(7))
	base := int64(r.Intn(4))
	for i := range l {
		l[i] = piece(base, int64(r.Intn(6)), int64(r.Intn(25)))
		base += 1 + int64(r.Intn(4))
	}
	return l
}

// drawnRule is a rule of small numbers, of which some do not ask.
func drawnRule(r *rand.Rand) api.Rule {
	x := rule(int64(r.Intn(20)), int64(r.Intn(20)), r.Intn(6), int64(r.Intn(30)))
	if r.Intn(2) == 0 {
		x.Bytes = 0
	}
	if r.Intn(3) == 0 {
		x.Age = 0
	}
	if r.Intn(2) == 0 {
		x.Pieces = 0
	}
	return x
}

// wantFollows asks for what follows: P13.5.
func wantFollows(t *testing.T, r *rand.Rand, x api.Rule, now int64, l []api.Piece) {
	t.Helper()
	n, e := keep.Goes(x, now, l...)
	if e != api.OK || n > 0 && n >= len(l) {
		t.Fatalf("P13.5: Goes(%v, %d, %v): %d %v", x, now, l, n, e)
	}
	if n > 0 && l[n].Base > x.Below {
		t.Errorf("P13.5: a record at Below or above goes: Goes(%v, %d, %v): %d", x, now, l, n)
	}
	wantGoes(t, "P13.5: behind what goes", x, now, l[n:], 0)
	later := now + int64(r.Intn(20))
	if m, e := keep.Goes(x, later, l...); m < n || e != api.OK {
		t.Errorf("P13.5: Goes(%v, %d, %v): %d, at %d %d %v", x, now, l, n, later, m, e)
	}
	less := lesser(r, x)
	if m, e := keep.Goes(less, now, l...); m < n || e != api.OK {
		t.Errorf("P13.5: Goes(%v, %d, %v): %d, by %v %d %v", x, now, l, n, less, m, e)
	}
}

// lesser is a rule that keeps less, or the same: what asks still does.
func lesser(r *rand.Rand, x api.Rule) api.Rule {
	if x.Bytes > 0 {
		x.Bytes = 1 + r.Int63n(x.Bytes)
	}
	if x.Age > 0 {
		x.Age = 1 + r.Int63n(x.Age)
	}
	if x.Pieces > 0 {
		x.Pieces = 1 + r.Intn(x.Pieces)
	}
	x.Below += int64(r.Intn(10))
	return x
}

// P13.1 to P13.4: drawn numbers from all over, most of which may not be.
func TestDrawnFar(t *testing.T) {
	r := rand.New(rand.NewSource(23))
	counts := map[api.Errno]int{}
	for range 60000 {
		x, now, l := farCase(r)
		want := wrong(x, now, l)
		counts[want]++
		wantErr(t, "Ordered", keep.Ordered(l...), ordered(l))
		if want != api.OK {
			wantRefused(t, "far", x, now, l, want)
		} else {
			wantGoes(t, "far", x, now, l, goes(x, now, l))
			n, there := next(x, now, l, turns(x, now, l))
			wantNext(t, "far", x, now, l, n, there)
			for at := range l {
				wantWhy(t, "far", x, now, at, l, why(x, now, at, l))
			}
		}
		if t.Failed() {
			t.FailNow()
		}
	}
	for _, e := range []api.Errno{api.OK, api.ErrArg} {
		if counts[e] < 5000 {
			t.Errorf("%v was told %d times", e, counts[e])
		}
	}
}

// farCase is a rule, a time and pieces at the bounds, of which seldom one number is past them.
func farCase(r *rand.Rand) (api.Rule, int64, []api.Piece) {
	l := make([]api.Piece, r.Intn(5))
	for i := range l {
		base := int64(i)
		if 2*i >= len(l) {
			base = maxOffset - int64(len(l)-1-i)
		}
		l[i] = piece(base, edge(r, maxSize), edge(r, maxTime))
		if r.Intn(25) == 0 {
			l[i].Base = edge(r, maxOffset)
		}
	}
	return rule(edge(r, maxBytes), edge(r, maxTime), int(edge(r, maxFiles)), edge(r, maxOffset)), edge(r, maxTime), l
}

// edge is a number near 0 or most, or between; seldom a far one.
func edge(r *rand.Rand, most int64) int64 {
	switch r.Intn(40) {
	case 0:
		return far()[r.Intn(len(far()))]
	case 1, 2, 3, 4, 5, 6, 7, 8, 9, 10, 11, 12, 13, 14:
		return int64(r.Intn(4))
	case 15, 16, 17, 18, 19, 20, 21, 22, 23, 24, 25, 26:
		return most - int64(r.Intn(4))
	}
	return most/2 + int64(r.Intn(5)) - 2
}
