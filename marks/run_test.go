package marks_test

import (
	"fmt"
	"math"
	"math/rand"
	"runtime"
	"slices"
	"testing"
	"time"

	"millrace/api"
	"millrace/marks"
)

// wrong are runs that may not be: P14.3.
func wrong() []api.MarkRun {
	writers := func(n int) [][]int64 { return make([][]int64, n) }
	return []api.MarkRun{
		{Readers: -1},
		{Readers: -1, Writers: writers(1)},
		{Readers: -1, Writers: writers(65)},
		{Readers: math.MinInt, Writers: writers(64)},
		{Readers: 65},
		{Readers: 64, Writers: writers(1)},
		{Readers: 1, Writers: writers(64)},
		{Readers: 33, Writers: writers(32)},
		{Writers: writers(65)},
		{Writers: writers(65), Looks: 1},
		{Readers: math.MaxInt},
		{Readers: math.MaxInt, Writers: writers(1)},
		{Readers: math.MaxInt, Looks: math.MaxInt},
		{Readers: math.MinInt},
		{Looks: -1},
		{Looks: math.MinInt},
		{Looks: math.MaxInt},
		{Looks: maxPicks + 1},
		{Looks: maxPicks + 1, Readers: 1},
		{Looks: maxPicks, Readers: 2},
		{Looks: maxPicks/2 + 1, Readers: 2},
		{Looks: 1025, Readers: 64},
		{Looks: math.MaxInt/2 + 1, Readers: 2},
		{Looks: -1, Readers: -1},
		{Looks: -1, Readers: 3, Writers: [][]int64{{1}}},
	}
}

// right are runs at the bounds: P14.3.
func right() []api.MarkRun {
	ones := make([][]int64, maxClients)
	for i := range ones {
		ones[i] = []int64{int64(i), int64(i) + 1}
	}
	return []api.MarkRun{
		{},
		{Looks: maxPicks},
		{Looks: maxPicks, Readers: 1},
		{Looks: maxPicks / 2, Readers: 2, Writers: ones[:1]},
		{Looks: maxPicks / 64, Readers: 64},
		{Readers: 64},
		{Writers: ones},
		{Writers: ones, Looks: maxPicks},
		{Writers: ones[:63], Readers: 1, Looks: 9},
		{Writers: ones[:32], Readers: 32, Looks: 9},
		{Writers: [][]int64{nil, {}, {1}}, Readers: 1, Looks: 1},
	}
}

// P14.3: what may not be is refused, with nothing beside it.
func TestRunRefused(t *testing.T) {
	for i, r := range wrong() {
		s, e := marks.Run(5, r)
		if e != api.ErrArg || s.End != 0 || s.Raised != nil || s.Seen != nil {
			t.Errorf("%d: %v %v", i, s, e)
		}
	}
}

// P14.3: what is at the bounds goes.
func TestRunBounds(t *testing.T) {
	for i, r := range right() {
		s, e := marks.Run(-3, r)
		wantRun(t, fmt.Sprint(i), -3, r, s, e)
	}
}

// P14.3: the chapter's example.
func TestRunExample(t *testing.T) {
	for range 200 {
		r := api.MarkRun{Writers: [][]int64{{1, 2}, {2, 3}}, Readers: 1, Looks: 3}
		s, e := marks.Run(0, r)
		wantRun(t, "example", 0, r, s, e)
		if s.End != 3 {
			t.Errorf("the end %d", s.End)
		}
		wantExplained(t, 0, r, s)
	}
}

// P14.3: without another goroutine all is told ahead.
func TestRunAlone(t *testing.T) {
	draw := rand.New(rand.NewSource(14))
	for range 300 {
		numbers := append(drawn(draw, draw.Intn(20), 50), math.MinInt64)
		begin := draw.Int63n(40) - 20
		s, e := marks.Run(begin, api.MarkRun{Writers: [][]int64{numbers}})
		at, want := begin, []bool{}
		for _, x := range numbers {
			want = append(want, x > at)
			at = max(at, x)
		}
		if e != api.OK || s.End != at || len(s.Raised) != 1 || !slices.Equal(s.Raised[0], want) || len(s.Seen) != 0 {
			t.Fatalf("Run(%d, %v): %v %v", begin, numbers, s, e)
		}
	}
	s, e := marks.Run(7, api.MarkRun{Readers: 2, Looks: 3})
	if e != api.OK || s.End != 7 || len(s.Raised) != 0 || !sameLists(s.Seen, [][]int64{{7, 7, 7}, {7, 7, 7}}) {
		t.Errorf("readers alone: %v %v", s, e)
	}
	s, e = marks.Run(math.MinInt64, api.MarkRun{Writers: [][]int64{{math.MinInt64, math.MaxInt64, math.MaxInt64}}})
	if e != api.OK || s.End != math.MaxInt64 || !slices.Equal(s.Raised[0], []bool{false, true, false}) {
		t.Errorf("least and greatest: %v %v", s, e)
	}
}

// P14.3 to P14.5: drawn runs can be explained by one order.
func TestRunDrawn(t *testing.T) {
	draw := rand.New(rand.NewSource(14))
	for range 1500 {
		r, begin := drawnRun(draw), draw.Int63n(8)-6
		if len(r.Writers)+r.Readers > 4 {
			r.Readers = 4 - len(r.Writers)
		}
		s, e := marks.Run(begin, r)
		wantRun(t, "drawn", begin, r, s, e)
		wantExplained(t, begin, r, s)
		if t.Failed() {
			t.Fatalf("Run(%d, %v): %v", begin, r, s)
		}
	}
}

// P14.3 to P14.5: runs with many numbers.
func TestRunLong(t *testing.T) {
	for i := range int64(20) {
		r := api.MarkRun{Readers: 4, Looks: 5000}
		for range 4 {
			r.Writers = append(r.Writers, rising(-50, 5000+i))
		}
		s, e := marks.Run(i-25, r)
		wantRun(t, "long", i-25, r, s, e)
	}
}

// P14.3: looks are taken while there is something to be seen: among many runs there is one in which a reader sees what a writer did.
func TestRunLooks(t *testing.T) {
	r := api.MarkRun{Writers: [][]int64{rising(1, 400), rising(1, 400)}, Readers: 4, Looks: 400}
	mark, board := false, false
	for i := 0; i < 1000 && !(mark && board); i++ {
		s, _ := marks.Run(0, r)
		for _, l := range s.Seen {
			mark = mark || slices.Max(l) > 0
		}
		seen, _, _ := marks.Boards(r)
		for _, l := range seen {
			board = board || l[len(l)-1].Version > 0
		}
	}
	if !mark || !board {
		t.Errorf("seen of marks: %v, of boards: %v", mark, board)
	}
}

// wantRun asks for what P14.3 and P14.5 say of each run.
func wantRun(t *testing.T, what string, begin int64, r api.MarkRun, s api.MarkSeen, e api.Errno) {
	t.Helper()
	if e != api.OK || len(s.Raised) != len(r.Writers) || len(s.Seen) != r.Readers {
		t.Fatalf("%s: %v: %d lists of raises, %d of looks", what, e, len(s.Raised), len(s.Seen))
	}
	raised := map[int64]int{begin: 1}
	greatest := begin
	for i, l := range r.Writers {
		if len(s.Raised[i]) != len(l) {
			t.Fatalf("%s: writer %d: %d answers to %d raises", what, i, len(s.Raised[i]), len(l))
		}
		least := begin // as far as this writer knows
		for k, x := range l {
			if s.Raised[i][k] {
				raised[x]++
				if x <= least {
					t.Errorf("%s: writer %d raised from %d to %d", what, i, least, x)
				}
			}
			least = max(least, x)
		}
		greatest = max(greatest, least)
	}
	for x, n := range raised {
		if n != 1 {
			t.Errorf("%s: raised to %d %d times", what, x, n)
		}
	}
	if s.End != greatest || raised[greatest] != 1 {
		t.Errorf("%s: the end %d, the greatest %d, raised to it %d times", what, s.End, greatest, raised[greatest])
	}
	for i, l := range s.Seen {
		if len(l) != r.Looks || !slices.IsSorted(l) {
			t.Errorf("%s: reader %d saw what falls, or %d looks of %d", what, i, len(l), r.Looks)
		}
		for _, x := range l {
			if raised[x] != 1 {
				t.Errorf("%s: reader %d saw %d", what, i, x)
			}
		}
	}
}

// wantExplained asks for an order of all raises and looks: P14.4. It knows of no tickets, so that each goroutine's own order alone is kept.
func wantExplained(t *testing.T, begin int64, r api.MarkRun, s api.MarkSeen) {
	t.Helper()
	var calls [][]did[int64]
	for i, l := range r.Writers {
		var mine []did[int64]
		for k, x := range l {
			raised := s.Raised[i][k]
			mine = append(mine, did[int64]{goes: func(s int64) (int64, bool) { return max(s, x), x > s == raised }})
		}
		calls = append(calls, mine)
	}
	for _, l := range s.Seen {
		var mine []did[int64]
		for _, x := range l {
			mine = append(mine, did[int64]{goes: func(s int64) (int64, bool) { return s, s == x }})
		}
		calls = append(calls, mine)
	}
	if !explained(begin, calls) {
		t.Errorf("no order explains Run(%d, %v): %v", begin, r, s)
	}
}

// P14.3: what is handed in is not changed, and what is answered is memory of its own.
func TestRunMemory(t *testing.T) {
	whole := rising(1, 9)
	r := api.MarkRun{Writers: [][]int64{whole[:4], whole[2:6], whole[:0]}, Readers: 2, Looks: 50}
	s, e := marks.Run(0, r)
	if e != api.OK || !slices.Equal(whole, rising(1, 9)) || len(r.Writers) != 3 {
		t.Fatal("changed", e, r)
	}
	other := slices.Clone(s.Seen[1])
	spoil(s.Seen[0])
	if !slices.Equal(s.Seen[1], other) || !slices.Equal(whole, rising(1, 9)) {
		t.Error("shared", whole)
	}
	raised := slices.Clone(s.Raised[1])
	first := s.Raised[0][:cap(s.Raised[0])]
	for i := range first {
		first[i] = !first[i]
	}
	if !slices.Equal(s.Raised[1], raised) {
		t.Error("raises share memory")
	}
}

// P14.3: all goroutines have ended behind the answer. One that is waited for may take a while to be gone.
func TestRunEnds(t *testing.T) {
	before := runtime.NumGoroutine()
	for range 20 {
		marks.Run(0, api.MarkRun{Writers: make([][]int64, 32), Readers: 32, Looks: 100})
		marks.Boards(api.MarkRun{Writers: make([][]int64, 32), Readers: 32, Looks: 100})
	}
	for range 1000 {
		if runtime.NumGoroutine() <= before {
			return
		}
		time.Sleep(time.Millisecond)
	}
	t.Errorf("%d goroutines, %d before", runtime.NumGoroutine(), before)
}
