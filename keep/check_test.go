package keep_test

import (
	"testing"

	"millrace/api"
	"millrace/keep"
)

// P13.1: the chapter's calls of Ordered and Check.
func TestCheckExample(t *testing.T) {
	wantErr(t, "Ordered", keep.Ordered(piece(5, 0, 0), piece(5, 0, 0)), api.ErrArg)
	wantErr(t, "Check", keep.Check(rule(0, -1, 0, 0)), api.ErrArg)
}

// P13.1: rules at the bounds, and one past each.
func TestCheckBounds(t *testing.T) {
	for _, r := range []api.Rule{{}, rule(maxBytes, maxTime, maxFiles, maxOffset), rule(1, 1, 1, 1), rule(maxBytes, 0, 0, 0), rule(0, maxTime, 0, 0), rule(0, 0, maxFiles, 0), rule(0, 0, 0, maxOffset)} {
		wantErr(t, "a rule at the bounds", keep.Check(r), api.OK)
	}
	for _, r := range []api.Rule{
		rule(-1, 0, 0, 0), rule(0, -1, 0, 0), rule(0, 0, -1, 0), rule(0, 0, 0, -1),
		rule(maxBytes+1, 0, 0, 0), rule(0, maxTime+1, 0, 0), rule(0, 0, maxFiles+1, 0), rule(0, 0, 0, maxOffset+1),
		rule(-1, -1, -1, -1), rule(maxBytes+1, maxTime+1, maxFiles+1, maxOffset+1),
	} {
		wantErr(t, "a rule past a bound", keep.Check(r), api.ErrArg)
	}
}

// P13.1: each number of a rule, at far numbers.
func TestCheckFar(t *testing.T) {
	for _, n := range far() {
		for _, r := range []api.Rule{rule(n, 0, 0, 0), rule(0, n, 0, 0), rule(0, 0, int(n), 0), rule(0, 0, 0, n)} {
			want := api.ErrArg
			if ruleMayBe(r) {
				want = api.OK
			}
			wantErr(t, "far", keep.Check(r), want)
		}
	}
}

// P13.1: pieces at the bounds, and one past each, alone and as any one of three.
func TestOrderedBounds(t *testing.T) {
	for _, p := range []api.Piece{{}, piece(maxOffset, maxSize, maxTime), piece(maxOffset, 0, 0), piece(0, maxSize, 0), piece(0, 0, maxTime)} {
		wantErr(t, "a piece at the bounds", keep.Ordered(p), api.OK)
	}
	for _, p := range []api.Piece{piece(-1, 0, 0), piece(0, -1, 0), piece(0, 0, -1), piece(maxOffset+1, 0, 0), piece(0, maxSize+1, 0), piece(0, 0, maxTime+1)} {
		wantErr(t, "a piece past a bound", keep.Ordered(p), api.ErrArg)
	}
	for at := range 3 {
		for _, change := range []func(p *api.Piece){
			func(p *api.Piece) { p.Bytes = -1 }, func(p *api.Piece) { p.Bytes = maxSize + 1 },
			func(p *api.Piece) { p.Last = -1 }, func(p *api.Piece) { p.Last = maxTime + 1 },
			func(p *api.Piece) { p.Base = -1 }, func(p *api.Piece) { p.Base = maxOffset + 1 },
		} {
			l := example()
			change(&l[at])
			wantErr(t, "one of three past a bound", keep.Ordered(l...), api.ErrArg)
		}
	}
}

// P13.1: Bases rise; nothing else needs to.
func TestOrderedRise(t *testing.T) {
	for _, c := range []struct {
		bases []int64
		want  api.Errno
	}{
		{nil, api.OK}, {[]int64{7}, api.OK}, {[]int64{0, 1, 2}, api.OK}, {[]int64{0, maxOffset - 1, maxOffset}, api.OK}, {[]int64{3, 1000, 1001}, api.OK},
		{[]int64{0, 0}, api.ErrArg}, {[]int64{1, 0}, api.ErrArg}, {[]int64{0, 2, 2}, api.ErrArg}, {[]int64{0, 2, 1}, api.ErrArg}, {[]int64{5, 5, 6}, api.ErrArg}, {[]int64{5, 6, 4, 7}, api.ErrArg}, {[]int64{maxOffset, maxOffset}, api.ErrArg},
	} {
		var l []api.Piece
		for i, n := range c.bases {
			l = append(l, piece(n, int64(10-i), int64(20-i)))
		}
		wantErr(t, "bases", keep.Ordered(l...), c.want)
	}
}

// P13.1: MaxFiles pieces go, one more is ErrLong, whatever else is wrong.
func TestOrderedLong(t *testing.T) {
	wantErr(t, "MaxFiles", keep.Ordered(row(maxFiles, 1, 1)...), api.OK)
	wantErr(t, "one more", keep.Ordered(row(maxFiles+1, 1, 1)...), api.ErrLong)
	wantErr(t, "one more, not in order", keep.Ordered(make([]api.Piece, maxFiles+1)...), api.ErrLong)
	wantErr(t, "MaxFiles, not in order", keep.Ordered(make([]api.Piece, maxFiles)...), api.ErrArg)
	l := row(maxFiles+1, 1, 1)
	l[0].Bytes = -1
	wantErr(t, "one more, of which one may not be", keep.Ordered(l...), api.ErrLong)
}

// P13.1: Bytes is the bytes of all, or Ordered's error with nothing beside it.
func TestBytes(t *testing.T) {
	for _, c := range []struct {
		l     []api.Piece
		bytes int64
		e     api.Errno
	}{
		{nil, 0, api.OK}, {example(), 250, api.OK}, {example()[1:], 150, api.OK}, {example()[2:], 50, api.OK}, {row(5, 0, 9), 0, api.OK},
		{row(maxFiles, maxSize, 0), maxFiles * maxSize, api.OK},
		{row(maxFiles+1, 1, 0), 0, api.ErrLong}, {make([]api.Piece, maxFiles+1), 0, api.ErrLong},
		{[]api.Piece{piece(0, 7, 0), piece(0, 7, 0)}, 0, api.ErrArg}, {[]api.Piece{piece(0, 7, 0), piece(1, -1, 0)}, 0, api.ErrArg}, {[]api.Piece{piece(0, 7, 0), piece(1, maxSize+1, 0)}, 0, api.ErrArg},
	} {
		if n, e := keep.Bytes(c.l...); n != c.bytes || e != c.e {
			t.Errorf("Bytes(%v): %d %v, want %d %v", short(c.l), n, e, c.bytes, c.e)
		}
	}
}
