package keep_test

import (
	"math"
	"testing"

	"millrace/api"
	"millrace/keep"
)

// The bounds of the document, as numbers.
const (
	maxTime   = 1 << 53
	maxOffset = 1 << 53
	maxBytes  = 1 << 53
	maxSize   = 1 << 24
	maxFiles  = 4096
)

// piece is a piece.
func piece(base, bytes, last int64) api.Piece {
	return api.Piece{Base: base, Bytes: bytes, Last: last}
}

// rule is a rule.
func rule(bytes, age int64, pieces int, below int64) api.Rule {
	return api.Rule{Bytes: bytes, Age: age, Pieces: pieces, Below: below}
}

// example is the chapter's pieces.
func example() []api.Piece {
	return []api.Piece{piece(0, 100, 5), piece(10, 100, 9), piece(20, 50, 12)}
}

// row is n pieces of these bytes and this time, whose bases are 0, 10, 20 and so on.
func row(n int, bytes, last int64) []api.Piece {
	l := make([]api.Piece, n)
	for i := range l {
		l[i] = piece(10*int64(i), bytes, last)
	}
	return l
}

// wantErr asks for this error.
func wantErr(t *testing.T, what string, got, want api.Errno) {
	t.Helper()
	if got != want {
		t.Errorf("%s: %v, want %v", what, got, want)
	}
}

// wantGoes asks Goes for this number.
func wantGoes(t *testing.T, what string, r api.Rule, now int64, l []api.Piece, want int) {
	t.Helper()
	if n, e := keep.Goes(r, now, l...); n != want || e != api.OK {
		t.Errorf("%s: Goes(%v, %d, %v): %d %v, want %d", what, r, now, short(l), n, e, want)
	}
}

// wantWhy asks Why for this reason.
func wantWhy(t *testing.T, what string, r api.Rule, now int64, at int, l []api.Piece, want api.Why) {
	t.Helper()
	if w, e := keep.Why(r, now, at, l...); w != want || e != api.OK {
		t.Errorf("%s: Why(%v, %d, %d, %v): %d %v, want %d", what, r, now, at, short(l), w, e, want)
	}
}

// wantNext asks Next for this time.
func wantNext(t *testing.T, what string, r api.Rule, now int64, l []api.Piece, want int64, there bool) {
	t.Helper()
	if n, ok, e := keep.Next(r, now, l...); n != want || ok != there || e != api.OK {
		t.Errorf("%s: Next(%v, %d, %v): %d %v %v, want %d %v", what, r, now, short(l), n, ok, e, want, there)
	}
}

// wantRefused asks all calls with a rule and a time for this error, with nothing beside it.
func wantRefused(t *testing.T, what string, r api.Rule, now int64, l []api.Piece, want api.Errno) {
	t.Helper()
	if n, e := keep.Goes(r, now, l...); n != 0 || e != want {
		t.Errorf("%s: Goes(%v, %d, %v): %d %v, want %v", what, r, now, short(l), n, e, want)
	}
	if n, ok, e := keep.Next(r, now, l...); n != 0 || ok || e != want {
		t.Errorf("%s: Next(%v, %d, %v): %d %v %v, want %v", what, r, now, short(l), n, ok, e, want)
	}
	for _, at := range []int{0, len(l) - 1, -1, len(l)} {
		if w, e := keep.Why(r, now, at, l...); w != 0 || e != want {
			t.Errorf("%s: Why(%v, %d, %d, %v): %d %v, want %v", what, r, now, at, short(l), w, e, want)
		}
	}
}

// short is what of a list may stand in a test's report.
func short(l []api.Piece) any {
	if len(l) > 20 {
		return len(l)
	}
	return l
}

// far are numbers at which a call must end, too.
func far() []int64 {
	return []int64{math.MinInt64, math.MinInt64 + 1, -1 << 53, -1 << 32, -2, -1, 0, 1, 2, 4096, 4097, 1 << 24, 1<<24 + 1, 1 << 31, 1 << 32, 1<<53 - 1, 1 << 53, 1<<53 + 1, 1 << 62, math.MaxInt64 - 1, math.MaxInt64}
}
