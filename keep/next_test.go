package keep_test

import (
	"testing"

	"millrace/api"
)

// P13.4: the chapter's calls of Next.
func TestNextExample(t *testing.T) {
	p := example()
	wantNext(t, "example", rule(0, 3, 0, 99), 12, p, 13, true)
	wantNext(t, "example", rule(150, 0, 0, 99), 12, p, 0, false)
}

// P13.4: from time to time, till all but the last one go.
func TestNextRow(t *testing.T) {
	p := example()
	for now := range int64(20) {
		want, there := int64(0), false
		switch {
		case now < 9:
			want, there = 9, true
		case now < 13:
			want, there = 13, true
		}
		wantNext(t, "age 3", rule(0, 3, 0, 99), now, p, want, there)
	}
}

// P13.4: what only time can't turn has no next time.
func TestNextNone(t *testing.T) {
	p := example()
	for now := range int64(20) {
		wantNext(t, "no pieces", rule(1, 1, 1, 99), now, nil, 0, false)
		wantNext(t, "the last one", rule(999, 1, 9, 99), now, p[:1], 0, false)
		wantNext(t, "not below Below", rule(0, 1, 0, 9), now, p, 0, false)
		wantNext(t, "no Age", rule(999, 0, 9, 99), now, p, 0, false)
		wantNext(t, "no rule asks", rule(0, 0, 0, 99), now, p, 0, false)
		wantNext(t, "all but the last one go", rule(1, 3, 0, 99), now, p, 0, false)
		wantNext(t, "never so old", rule(0, maxTime, 0, 99), now, p, 0, false)
	}
}

// P13.4: those that go for other reasons are passed over, and the next one behind them is asked.
func TestNextBehind(t *testing.T) {
	p := []api.Piece{piece(0, 9, 900), piece(10, 9, 9), piece(20, 9, 20), piece(30, 9, 5), piece(40, 9, 0)}
	wantNext(t, "the first one goes by its bytes", rule(36, 3, 0, 99), 0, p, 13, true)
	wantNext(t, "two go by pieces", rule(0, 3, 3, 99), 0, p, 24, true)
	wantNext(t, "one is old by now", rule(36, 3, 0, 99), 13, p, 24, true)
	wantNext(t, "those behind it are old by then", rule(36, 3, 0, 99), 24, p, 0, false)
	wantNext(t, "up to Below", rule(36, 3, 0, 29), 13, p, 0, false)
	wantNext(t, "the first one is the youngest", rule(0, 3, 0, 99), 50, p, 904, true)
}

// P13.4: the least time is the one just above Age; MaxTime is one still, above it there is none.
func TestNextBounds(t *testing.T) {
	for _, c := range []struct {
		last, age, now, want int64
		there                bool
	}{
		{0, 1, 0, 2, true}, {0, 1, 1, 2, true}, {0, 1, 2, 0, false}, {5, 1, 0, 7, true},
		{0, maxTime - 1, 0, maxTime, true}, {0, maxTime - 1, maxTime - 1, maxTime, true}, {0, maxTime - 1, maxTime, 0, false}, {0, maxTime, 0, 0, false}, {0, maxTime, maxTime, 0, false},
		{maxTime - 2, 1, 0, maxTime, true}, {maxTime - 2, 1, maxTime - 1, maxTime, true}, {maxTime - 1, 1, 0, 0, false}, {maxTime - 1, 1, maxTime, 0, false}, {maxTime, 1, 0, 0, false}, {maxTime, maxTime, maxTime, 0, false},
		{maxTime / 2, maxTime/2 - 1, 7, maxTime, true}, {maxTime / 2, maxTime / 2, 7, 0, false},
	} {
		p := []api.Piece{piece(0, maxSize, c.last), piece(maxOffset, maxSize, maxTime)}
		wantNext(t, "bounds", rule(0, c.age, 0, maxOffset), c.now, p, c.want, c.there)
		if c.there {
			wantGoes(t, "ahead of it", rule(0, c.age, 0, maxOffset), c.want-1, p, 0)
			wantGoes(t, "at it", rule(0, c.age, 0, maxOffset), c.want, p, 1)
		}
	}
}
