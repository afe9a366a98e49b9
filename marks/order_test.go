package marks_test

import (
	"fmt"
	"math/rand"
	"slices"
	"sync/atomic"
	"testing"

	"millrace/api"
	"millrace/marks"
)

// did is a call that has returned: its tickets, and what it makes of a state, if it could have answered there what it did.
type did[S comparable] struct {
	called, returned int64
	goes             func(s S) (S, bool)
}

// stand is how far an order has come: how many calls of each goroutine are in it, and the state.
type stand[S comparable] struct {
	done  [4]int
	state S
}

// explained tells whether the calls can be put in an order, each goroutine's own in its order and each behind all that had returned ahead of it, in which plain states answer just so.
func explained[S comparable](state S, calls [][]did[S]) bool {
	left := map[stand[S]]bool{}
	var search func(now stand[S]) bool
	search = func(now stand[S]) bool {
		if left[now] {
			return false
		}
		left[now] = true
		first, open := int64(1<<62), false // when the first of those that are left returned
		for g, l := range calls {
			if now.done[g] < len(l) {
				first, open = min(first, l[now.done[g]].returned), true
			}
		}
		for g, l := range calls {
			if now.done[g] == len(l) || l[now.done[g]].called > first {
				continue
			}
			next := now
			next.done[g]++
			var ok bool
			if next.state, ok = l[now.done[g]].goes(now.state); ok && search(next) {
				return true
			}
		}
		return !open
	}
	return search(stand[S]{state: state})
}

// recorded lets goroutines make drawn calls, and takes their tickets.
func recorded[S comparable](seed int64, goroutines, calls int, does func(r *rand.Rand, number int64) func(s S) (S, bool)) [][]did[S] {
	out := make([][]did[S], goroutines)
	var ticket atomic.Int64
	all(goroutines, func(g int) {
		r := rand.New(rand.NewSource(100*seed + int64(g)))
		for i := range calls {
			called := ticket.Add(1)
			goes := does(r, int64(1000*g+i))
			out[g] = append(out[g], did[S]{called, ticket.Add(1), goes})
		}
	})
	return out
}

// markCall makes a drawn call of a mark.
func markCall(m *marks.Mark, r *rand.Rand) func(s int64) (int64, bool) {
	if r.Intn(2) == 0 {
		x := m.Get()
		return func(s int64) (int64, bool) { return s, s == x }
	}
	x := int64(r.Intn(12))
	if m.Raise(x) {
		return func(s int64) (int64, bool) { return x, s < x }
	}
	return func(s int64) (int64, bool) { return s, s >= x }
}

// P14.4: what a mark's calls answer by many goroutines is as if they had come one behind the other.
func TestMarkOrder(t *testing.T) {
	for seed := range int64(1500) {
		m := marks.NewMark(3)
		calls := recorded(seed, 4, 7, func(r *rand.Rand, _ int64) func(s int64) (int64, bool) { return markCall(m, r) })
		if !explained(3, calls) {
			t.Fatalf("seed %d: no order", seed)
		}
	}
}

// board is what a board tells: its version, its list as a text.
type board struct {
	version int64
	list    string
}

// boardCall makes a drawn call of a board, of which no other publishes that number.
func boardCall(b *marks.Board, r *rand.Rand, number int64) func(s board) (board, bool) {
	switch r.Intn(3) {
	case 0:
		v, e := b.Publish(number, number)
		return func(s board) (board, bool) {
			return board{v, fmt.Sprint([]int64{number, number})}, e == api.OK && s.version+1 == v
		}
	case 1:
		l, v := b.Get()
		return func(s board) (board, bool) { return s, s == board{v, fmt.Sprint(l)} }
	}
	var asked, gave string
	v, e := b.Turn(func(l []int64) []int64 {
		asked = fmt.Sprint(l)
		l = append(l, number)
		gave = fmt.Sprint(l)
		return l
	})
	return func(s board) (board, bool) {
		return board{v, gave}, e == api.OK && s == board{v - 1, asked}
	}
}

// P14.4: what a board's calls answer by many goroutines is as if they had come one behind the other.
func TestBoardOrder(t *testing.T) {
	for seed := range int64(1500) {
		b := marks.NewBoard()
		calls := recorded(seed, 4, 6, func(r *rand.Rand, number int64) func(s board) (board, bool) { return boardCall(b, r, number) })
		if !explained(board{0, "[]"}, calls) {
			t.Fatalf("seed %d: no order", seed)
		}
	}
}

// That the search above refuses what no order explains.
func TestNoOrder(t *testing.T) {
	get := func(x int64) func(s int64) (int64, bool) {
		return func(s int64) (int64, bool) { return s, s == x }
	}
	raise := func(x int64) func(s int64) (int64, bool) {
		return func(s int64) (int64, bool) { return x, s < x }
	}
	call := func(called, returned int64, goes func(s int64) (int64, bool)) []did[int64] {
		return []did[int64]{{called, returned, goes}}
	}
	for i, x := range []struct {
		calls [][]did[int64]
		want  bool
	}{
		{nil, true},
		{[][]did[int64]{call(1, 2, raise(5)), call(3, 4, get(5))}, true},
		{[][]did[int64]{call(1, 2, raise(5)), call(3, 4, get(0))}, false},
		{[][]did[int64]{call(1, 4, raise(5)), call(2, 3, get(0))}, true},
		{[][]did[int64]{call(1, 4, raise(5)), call(2, 3, raise(5))}, false},
		{[][]did[int64]{call(3, 4, raise(5)), call(1, 2, get(5))}, false},
		{[][]did[int64]{append(call(1, 2, get(5)), call(3, 4, get(0))...), call(1, 4, raise(5))}, false},
		{[][]did[int64]{append(call(1, 2, get(0)), call(3, 4, get(5))...), call(1, 4, raise(5))}, true},
	} {
		if explained(0, x.calls) != x.want {
			t.Errorf("%d: explained: %v", i, !x.want)
		}
	}
}

// P14.4, P14.5: of many goroutines that raise to the same numbers one alone is told true of each, and the greatest stays.
func TestRaiseOnce(t *testing.T) {
	const most = 3000
	m := marks.NewMark(0)
	times := make([]atomic.Int64, most+1)
	all(8, func(int) {
		for x := int64(1); x <= most; x++ {
			if m.Raise(x) {
				times[x].Add(1)
			}
		}
	})
	for x := range times {
		if n := times[x].Load(); n > 1 || x == most && n != 1 || x == 0 && n != 0 {
			t.Errorf("raised to %d %d times", x, n)
		}
	}
	wantMark(t, "in the end", m, most)
}

// P14.4: Publishes of many goroutines get all versions, each once, each goroutine's own rising.
func TestPublishVersions(t *testing.T) {
	const goroutines, each = 8, 400
	b := marks.NewBoard()
	versions := make([][]int64, goroutines)
	all(goroutines, func(g int) {
		for range each {
			v, _ := b.Publish(int64(g))
			versions[g] = append(versions[g], v)
		}
	})
	for g, l := range versions {
		if !slices.IsSorted(l) {
			t.Errorf("goroutine %d: %v", g, l)
		}
	}
	got := slices.Concat(versions...)
	slices.Sort(got)
	if !slices.Equal(got, rising(1, goroutines*each)) {
		t.Error("versions are missing, or came twice")
	}
}

// P14.2, P14.4: of Turns of many goroutines none is lost.
func TestTurnsCount(t *testing.T) {
	const goroutines, each = 8, 50
	b := marks.NewBoard()
	all(goroutines, func(g int) {
		for i := range each {
			b.Turn(func(l []int64) []int64 { return append(l, int64(each*g+i)) })
		}
	})
	l, v := b.Get()
	if v != goroutines*each || len(l) != goroutines*each {
		t.Fatalf("version %d, %d numbers", v, len(l))
	}
	last := map[int64]int64{}
	for _, x := range l {
		if before, there := last[x/each]; x%each != 0 && (!there || x != before+1) {
			t.Fatalf("%d behind %d", x, before)
		}
		last[x/each] = x
	}
}

// P14.5: each list that is seen is whole, under its own version, and versions do not fall.
func TestBoardWhole(t *testing.T) {
	const looks, lists = 3000, 1000
	b := marks.NewBoard()
	all(8, func(g int) {
		if g < 2 {
			for range lists {
				b.Turn(func(l []int64) []int64 {
					x := int64(0)
					if len(l) > 0 {
						x = l[0]
					}
					return slices.Repeat([]int64{x + 1}, int(x+1)%7+1)
				})
			}
			return
		}
		at := int64(0)
		for range looks {
			l, v := b.Get()
			if v < at || v > 0 && !slices.Equal(l, slices.Repeat([]int64{v}, int(v)%7+1)) {
				t.Errorf("behind %d: %d, %v", at, v, l)
			}
			at = v
		}
	})
}

// P14.5: what one goroutine sees of a mark does not fall, and is begin or raised to.
func TestMarkSeen(t *testing.T) {
	const most = 20000
	m := marks.NewMark(-4)
	all(8, func(g int) {
		if g < 4 {
			for x := int64(g); x < most; x += 8 {
				m.Raise(x)
			}
			return
		}
		at := int64(-4)
		for range most / 8 {
			x := m.Get()
			if x < at || x != -4 && (x < 0 || x%8 > 3) {
				t.Errorf("behind %d: %d", at, x)
			}
			at = x
		}
	})
}

// P14.1, P14.4: behind a Raise the mark is at least that, whoever raises it meanwhile. All try just above the mark, so that they often meet.
func TestRaiseReaches(t *testing.T) {
	m := marks.NewMark(0)
	all(8, func(g int) {
		for range 10000 {
			x := m.Get() + int64(1+g)
			if raised := m.Raise(x); m.Get() < x {
				t.Errorf("Raise(%d): %v, and the mark is below", x, raised)
				return
			}
		}
	})
}
