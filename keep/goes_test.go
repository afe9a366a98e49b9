package keep_test

import (
	"slices"
	"testing"

	"millrace/api"
	"millrace/keep"
)

// P13.2: the chapter's calls of Goes.
func TestGoesExample(t *testing.T) {
	p := example()
	wantGoes(t, "example", rule(150, 0, 0, 99), 12, p, 1)
	wantGoes(t, "example", rule(50, 0, 0, 99), 12, p, 2)
	wantGoes(t, "example", rule(50, 0, 0, 10), 12, p, 1)
	wantGoes(t, "example", rule(0, 3, 0, 99), 12, p, 1)
	wantGoes(t, "example", rule(0, 2, 0, 99), 12, p, 2)
	wantGoes(t, "example", rule(0, 0, 1, 99), 0, p, 2)
	wantGoes(t, "example", rule(0, 0, 0, 99), 12, p, 0)
	wantGoes(t, "none", rule(1, 0, 0, 99), 12, nil, 0)
	wantGoes(t, "the last one", rule(1, 0, 0, 99), 12, p[2:], 0)
}

// P13.2: each of the three reasons at its edge: at least Bytes, above Age, at least Pieces.
func TestGoesEdges(t *testing.T) {
	p := example()
	for bytes, want := range map[int64]int{1: 2, 49: 2, 50: 2, 51: 1, 149: 1, 150: 1, 151: 0, maxBytes: 0} {
		wantGoes(t, "bytes", rule(bytes, 0, 0, 99), 12, p, want)
	}
	for age, want := range map[int64]int{1: 2, 2: 2, 3: 1, 6: 1, 7: 0, maxTime: 0} {
		wantGoes(t, "age", rule(0, age, 0, 99), 12, p, want)
	}
	for pieces, want := range map[int]int{1: 2, 2: 1, 3: 0, maxFiles: 0} {
		wantGoes(t, "pieces", rule(0, 0, pieces, 99), 12, p, want)
	}
	for below, want := range map[int64]int{0: 0, 9: 0, 10: 1, 19: 1, 20: 2, 21: 2, maxOffset: 2} {
		wantGoes(t, "below", rule(1, 1, 1, below), 99, p, want)
	}
}

// P13.2: a record that is younger than now is of no age; 0 of a reason does not ask.
func TestGoesAges(t *testing.T) {
	p := []api.Piece{piece(0, 0, 50), piece(1, 0, 0), piece(2, 0, 0)}
	wantGoes(t, "younger than now", rule(0, 1, 0, 99), 3, p, 0)
	wantGoes(t, "as old as Age", rule(0, 1, 0, 99), 51, p, 0)
	wantGoes(t, "older", rule(0, 1, 0, 99), 52, p, 2)
	wantGoes(t, "no reason asks", rule(0, 0, 0, maxOffset), maxTime, p, 0)
	wantGoes(t, "bytes behind are 0", rule(1, 0, 0, 99), maxTime, p, 0)
	wide := []api.Piece{piece(0, 0, 0), piece(maxOffset-1, 0, maxTime), piece(maxOffset, 0, 0)}
	wantGoes(t, "the widest age but one", rule(0, maxTime-1, 0, maxOffset), maxTime, wide, 1)
	wantGoes(t, "the widest age", rule(0, maxTime, 0, maxOffset), maxTime, wide, 0)
	wantGoes(t, "the youngest of all", rule(0, 1, 0, maxOffset), 0, wide, 0)
}

// P13.2: the reasons help one another, piece by piece; what may go behind one that may not stays.
func TestGoesTogether(t *testing.T) {
	p := []api.Piece{piece(0, 9, 90), piece(10, 9, 1), piece(20, 9, 90), piece(30, 9, 1), piece(40, 9, 90)}
	wantGoes(t, "pieces alone", rule(0, 0, 4, 99), 20, p, 1)
	wantGoes(t, "pieces, then age", rule(0, 5, 4, 99), 20, p, 2)
	wantGoes(t, "bytes, age, bytes, age", rule(18, 5, 4, 99), 20, p, 4)
	wantGoes(t, "age behind one that stays", rule(0, 5, 0, 99), 20, p, 0)
	wantGoes(t, "up to Below", rule(18, 5, 4, 25), 20, p, 2)
}

// P13.2: as many pieces as may be.
func TestGoesMany(t *testing.T) {
	p := row(maxFiles, maxSize, 5)
	wantGoes(t, "pieces", rule(0, 0, 1, maxOffset), 0, p, maxFiles-1)
	wantGoes(t, "pieces", rule(0, 0, maxFiles-1, maxOffset), 0, p, 1)
	wantGoes(t, "pieces", rule(0, 0, maxFiles, maxOffset), 0, p, 0)
	wantGoes(t, "bytes", rule(maxSize*(maxFiles-1), 0, 0, maxOffset), 0, p, 1)
	wantGoes(t, "bytes", rule(maxSize*(maxFiles-1)+1, 0, 0, maxOffset), 0, p, 0)
	wantGoes(t, "bytes", rule(maxSize, 0, 0, maxOffset), 0, p, maxFiles-1)
	wantGoes(t, "age", rule(0, 1, 0, maxOffset), 7, p, maxFiles-1)
	wantGoes(t, "below", rule(0, 1, 0, 1234), 7, p, 123)
}

// P13.2 to P13.4: what is refused, in the order of the errors.
func TestRefused(t *testing.T) {
	p := example()
	good := rule(1, 1, 1, 99)
	bad := []api.Rule{rule(-1, 0, 0, 0), rule(0, -1, 0, 0), rule(0, 0, -1, 0), rule(0, 0, 0, -1), rule(maxBytes+1, 0, 0, 0), rule(0, maxTime+1, 0, 0), rule(0, 0, maxFiles+1, 0), rule(0, 0, 0, maxOffset+1)}
	long := row(maxFiles+1, 1, 1)
	for _, r := range bad {
		wantRefused(t, "a rule", r, 12, p, api.ErrArg)
		wantRefused(t, "a rule, of no pieces", r, 12, nil, api.ErrArg)
		wantRefused(t, "a rule ahead of too many pieces", r, 12, long, api.ErrArg)
	}
	for _, now := range far() {
		if now < 0 || now > maxTime {
			wantRefused(t, "a time", good, now, p, api.ErrArg)
			wantRefused(t, "a time, of no pieces", good, now, nil, api.ErrArg)
			wantRefused(t, "a time ahead of too many pieces", good, now, long, api.ErrArg)
		}
	}
	wantRefused(t, "too many", good, 12, long, api.ErrLong)
	wantRefused(t, "too many, not in order", good, 12, make([]api.Piece, maxFiles+1), api.ErrLong)
	wantRefused(t, "not in order", good, 12, []api.Piece{p[1], p[0]}, api.ErrArg)
	wantRefused(t, "alike", good, 12, []api.Piece{p[1], p[1]}, api.ErrArg)
	wantRefused(t, "the last one may not be", good, 12, []api.Piece{p[0], p[1], piece(20, 0, -1)}, api.ErrArg)
	wantRefused(t, "the only one may not be", good, 12, []api.Piece{piece(0, maxSize+1, 0)}, api.ErrArg)
}

// P13.2 to P13.4: times at the bounds go.
func TestNowBounds(t *testing.T) {
	p := example()
	for _, now := range []int64{0, maxTime} {
		wantGoes(t, "now", rule(0, 0, 2, 99), now, p, 1)
		wantWhy(t, "now", rule(0, 0, 2, 99), now, 0, p, api.WhyPieces)
		wantNext(t, "now", rule(0, 0, 2, 99), now, p, 0, false)
	}
}

// Rules: pieces that are handed in are not changed, spare room behind them included; nil and none mean the same.
func TestHandedIn(t *testing.T) {
	room := append(example(), piece(77, 7, 7), piece(88, 8, 8))
	want := slices.Clone(room)
	l := room[:3]
	for _, r := range []api.Rule{{}, rule(50, 3, 1, 99), rule(-1, 0, 0, 0)} {
		for now := range int64(20) {
			keep.Ordered(l...)
			keep.Bytes(l...)
			keep.Goes(r, now, l...)
			keep.Next(r, now, l...)
			for at := range 4 {
				keep.Why(r, now, at, l...)
			}
		}
	}
	if !slices.Equal(room, want) {
		t.Errorf("changed: %v, want %v", room, want)
	}
	none := []api.Piece{}
	wantErr(t, "Ordered of none", keep.Ordered(none...), api.OK)
	wantGoes(t, "none", rule(1, 1, 1, 99), 12, none, 0)
	wantNext(t, "none", rule(1, 1, 1, 99), 12, none, 0, false)
}
