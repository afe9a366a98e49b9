package marks_test

import (
	"fmt"
	"math"
	"math/rand"
	"slices"
	"testing"

	"millrace/api"
	"millrace/marks"
)

// P14.3: what may not be is refused, with nothing beside it.
func TestBoardsRefused(t *testing.T) {
	for i, r := range wrong() {
		seen, lists, e := marks.Boards(r)
		if e != api.ErrArg || seen != nil || lists != nil {
			t.Errorf("%d: %v %v %v", i, seen, lists, e)
		}
	}
}

// P14.3: what is at the bounds goes.
func TestBoardsBounds(t *testing.T) {
	for i, r := range right() {
		seen, lists, e := marks.Boards(r)
		wantBoards(t, fmt.Sprint(i), r, seen, lists, e)
	}
}

// P14.3: without another goroutine all is told ahead.
func TestBoardsAlone(t *testing.T) {
	numbers := []int64{5, math.MinInt64, 5, math.MaxInt64}
	seen, lists, e := marks.Boards(api.MarkRun{Writers: [][]int64{nil, numbers, {}}})
	if e != api.OK || len(seen) != 0 || len(lists) != 4 {
		t.Fatal(seen, lists, e)
	}
	for i, x := range lists {
		if x.Version != int64(i+1) || !slices.Equal(x.List, numbers[:i+1]) {
			t.Errorf("%d: %v", i, x)
		}
	}
	seen, lists, e = marks.Boards(api.MarkRun{Readers: 2, Looks: 3})
	if e != api.OK || len(lists) != 0 || len(seen) != 2 {
		t.Fatal(seen, lists, e)
	}
	for _, l := range seen {
		if len(l) != 3 {
			t.Errorf("%d looks", len(l))
		}
		for _, x := range l {
			if x.Version != 0 || len(x.List) != 0 {
				t.Error(x)
			}
		}
	}
}

// P14.3 to P14.5: drawn runs.
func TestBoardsDrawn(t *testing.T) {
	draw := rand.New(rand.NewSource(14))
	for range 1500 {
		r := drawnRun(draw)
		seen, lists, e := marks.Boards(r)
		wantBoards(t, "drawn", r, seen, lists, e)
		if t.Failed() {
			t.Fatalf("Boards(%v): %v %v", r, seen, lists)
		}
	}
}

// P14.3 to P14.5: runs with many numbers.
func TestBoardsLong(t *testing.T) {
	for i := range int64(10) {
		r := api.MarkRun{Readers: 4, Looks: 500}
		for w := range int64(4) {
			r.Writers = append(r.Writers, rising(1000*w, 1000*w+150+i))
		}
		seen, lists, e := marks.Boards(r)
		wantBoards(t, "long", r, seen, lists, e)
	}
}

// wantBoards asks for what P14.3 and P14.5 say of each run.
func wantBoards(t *testing.T, what string, r api.MarkRun, seen [][]api.MarkList, lists []api.MarkList, e api.Errno) {
	t.Helper()
	many := 0
	for _, l := range r.Writers {
		many += len(l)
	}
	if e != api.OK || len(seen) != r.Readers || len(lists) != many {
		t.Fatalf("%s: %v: %d lists of looks, %d lists of %d", what, e, len(seen), len(lists), many)
	}
	for i, x := range lists {
		if x.Version != int64(i+1) {
			t.Fatalf("%s: version %d at place %d", what, x.Version, i)
		}
	}
	if !woven(r.Writers, lists) {
		t.Errorf("%s: not what the writers publish, each in its order: %v", what, lists)
	}
	for i, l := range seen {
		if len(l) != r.Looks {
			t.Errorf("%s: reader %d: %d looks of %d", what, i, len(l), r.Looks)
		}
		at := int64(0)
		for _, x := range l {
			if x.Version < at || x.Version > int64(many) {
				t.Fatalf("%s: reader %d: version %d behind %d", what, i, x.Version, at)
			}
			at = x.Version
			if at == 0 && len(x.List) != 0 || at > 0 && !slices.Equal(x.List, lists[at-1].List) {
				t.Errorf("%s: reader %d: %v", what, i, x)
			}
		}
	}
}

// woven tells whether lists are what writers publish, each writer's own in its order. Writers may have the same numbers, so that it keeps all ways in which the lists so far may be theirs.
func woven(writers [][]int64, lists []api.MarkList) bool {
	ways := map[[maxClients]int]bool{{}: true}
	for _, x := range lists {
		next := map[[maxClients]int]bool{}
		for way := range ways {
			for w, l := range writers {
				if n := way[w] + 1; n <= len(l) && slices.Equal(l[:n], x.List) {
					now := way
					now[w] = n
					next[now] = true
				}
			}
		}
		ways = next
	}
	return len(ways) > 0
}

// P14.3: what is handed in is not changed, and each list that is answered is memory of its own, the room behind it too.
func TestBoardsMemory(t *testing.T) {
	whole := rising(1, 9)
	r := api.MarkRun{Writers: [][]int64{whole[:4], whole[2:6]}, Readers: 2, Looks: 30}
	seen, lists, e := marks.Boards(r)
	if e != api.OK || !slices.Equal(whole, rising(1, 9)) {
		t.Fatal("changed", e, whole)
	}
	var each [][]int64
	for _, l := range append(seen, lists) {
		for _, x := range l {
			each = append(each, x.List)
		}
	}
	want := copyOf(each)
	for i, l := range each {
		spoil(l)
		spoil(want[i])
		if !sameLists(each, want) {
			t.Fatalf("list %d shares memory", i)
		}
	}
	if !slices.Equal(whole, rising(1, 9)) {
		t.Error("shared with what was handed in", whole)
	}
	outer := append(seen, lists)
	for i, l := range outer {
		for k := range l[:cap(l)] {
			l[:cap(l)][k].Version = int64(-i)
		}
	}
	for i, l := range outer {
		for _, x := range l {
			if x.Version != int64(-i) {
				t.Fatal("lists of lists share memory")
			}
		}
	}
}
