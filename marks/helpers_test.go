package marks_test

import (
	"math/rand"
	"slices"
	"sync"
	"testing"

	"millrace/api"
	"millrace/marks"
)

// The bounds of the document, as numbers.
const (
	maxClients = 64
	maxPicks   = 65536
)

// wantRaise raises a mark, and asks for this answer.
func wantRaise(t *testing.T, what string, m *marks.Mark, x int64, want bool) {
	t.Helper()
	if got := m.Raise(x); got != want {
		t.Errorf("%s: Raise(%d): %v", what, x, got)
	}
}

// wantMark asks for this mark.
func wantMark(t *testing.T, what string, m *marks.Mark, want int64) {
	t.Helper()
	if got := m.Get(); got != want {
		t.Errorf("%s: Get: %d, want %d", what, got, want)
	}
}

// wantVersion asks for this version, and no error.
func wantVersion(t *testing.T, what string, got int64, e api.Errno, want int64) {
	t.Helper()
	if got != want || e != api.OK {
		t.Errorf("%s: version %d %v, want %d", what, got, e, want)
	}
}

// wantRefused asks for no version, and ErrNil.
func wantRefused(t *testing.T, what string, got int64, e api.Errno) {
	t.Helper()
	if got != 0 || e != api.ErrNil {
		t.Errorf("%s: version %d %v, want ErrNil", what, got, e)
	}
}

// wantBoard asks for this version of a board, and this list.
func wantBoard(t *testing.T, what string, b *marks.Board, version int64, want ...int64) {
	t.Helper()
	if l, v := b.Get(); v != version || !slices.Equal(l, want) {
		t.Errorf("%s: Get: %v, %d, want %v, %d", what, l, v, want, version)
	}
}

// publish publishes these numbers, and asks for this version.
func publish(t *testing.T, b *marks.Board, version int64, l ...int64) {
	t.Helper()
	v, e := b.Publish(l...)
	wantVersion(t, "Publish", v, e, version)
}

// spoil writes over a list and all the room behind it.
func spoil(l []int64) {
	l = l[:cap(l)]
	for i := range l {
		l[i] = -999
	}
}

// all lets n goroutines go at once, each told its number, and waits for all of them.
func all(n int, does func(number int)) {
	var ready, done sync.WaitGroup
	begin := make(chan struct{})
	ready.Add(n)
	done.Add(n)
	for number := range n {
		go func() {
			defer done.Done()
			ready.Done()
			<-begin
			does(number)
		}()
	}
	ready.Wait()
	close(begin)
	done.Wait()
}

// rising is the numbers from one to another.
func rising(from, to int64) []int64 {
	var l []int64
	for x := from; x <= to; x++ {
		l = append(l, x)
	}
	return l
}

// drawn is n numbers, below most either way.
func drawn(r *rand.Rand, n int, most int64) []int64 {
	l := make([]int64, n)
	for i := range l {
		l[i] = r.Int63n(2*most) - most
	}
	return l
}

// drawnRun is few writers with few numbers, few readers with few looks.
func drawnRun(r *rand.Rand) api.MarkRun {
	x := api.MarkRun{Writers: make([][]int64, r.Intn(4)), Readers: r.Intn(4), Looks: r.Intn(8)}
	for i := range x.Writers {
		x.Writers[i] = drawn(r, r.Intn(8), 6)
	}
	return x
}

// copyOf is lists in new memory.
func copyOf(l [][]int64) [][]int64 {
	out := make([][]int64, len(l))
	for i := range l {
		out[i] = slices.Clone(l[i])
	}
	return out
}

// sameLists tells whether lists hold the same numbers.
func sameLists(a, b [][]int64) bool {
	return slices.EqualFunc(a, b, func(x, y []int64) bool { return slices.Equal(x, y) })
}
