package sched_test

import (
	"math/rand"
	"slices"
	"testing"

	"millrace/api"
	"millrace/sched"
)

// P15.3: the chapter's example.
func TestMostExample(t *testing.T) {
	wantMost(t, "example", []int{0, 0, 1}, rows("yy", "yy", "yy"), 2)
}

// P15.3: a row ends where the task is next, where it cannot go on, and at the end; the greatest one counts, wherever it is.
func TestMostRows(t *testing.T) {
	for _, c := range []struct {
		what string
		l    []int
		can  [][]bool
		want int
	}{
		{"no step", nil, nil, 0},
		{"no step, empty lists", []int{}, [][]bool{}, 0},
		{"one task", []int{0, 0, 0}, rows("y", "y", "y"), 0},
		{"one step", []int{1}, rows("yyy"), 1},
		{"the others can't", []int{1, 1, 1}, rows(".y.", ".y.", ".y."), 0},
		{"up to the end", []int{0, 0, 0}, rows("yy", "yy", "yy"), 3},
		{"at the begin", []int{1, 1, 0, 1, 0}, rows("yy", "yy", "yy", "yy", "yy"), 2},
		{"in the middle", []int{0, 1, 1, 1, 0, 1}, rows("yy", "yy", "yy", "yy", "yy", "yy"), 3},
		{"it cannot meanwhile", []int{0, 0, 0, 0}, rows("yy", "y.", "yy", "yy"), 2},
		{"it cannot by turns", []int{0, 0, 0, 0}, rows("yy", "y.", "yy", "y."), 1},
		{"by others in turn", []int{0, 1, 0, 1, 2}, rows("yyy", "yyy", "yyy", "yyy", "yyy"), 4},
		{"of several the greatest", []int{0, 0, 2, 2, 2}, rows("yyy", "yyy", "y.y", "yyy", "yyy"), 3},
		{"next itself, then not", []int{1, 1, 0, 0, 0, 1}, rows("yy", "yy", "yy", "yy", "yy", "yy"), 3},
	} {
		wantMost(t, c.what, c.l, c.can, c.want)
	}
}

// P15.3: what may not be.
func TestMostWrong(t *testing.T) {
	for _, c := range []struct {
		what string
		l    []int
		can  [][]bool
	}{
		{"more steps than lists", []int{0}, nil},
		{"more steps than lists", []int{0, 0}, rows("y")},
		{"more lists than steps", nil, rows("y")},
		{"more lists than steps", []int{0}, rows("y", "y")},
		{"a list of none", []int{0}, rows("")},
		{"a list that is nil", []int{0}, [][]bool{nil}},
		{"a longer list", []int{0, 0}, rows("y", "yy")},
		{"a longer list, last", []int{0, 0, 0}, rows("y", "y", "y.")},
		{"a shorter list", []int{0, 0}, rows("yy", "y")},
		{"a list that is nil behind", []int{0, 0}, [][]bool{{true}, nil}},
		{"it can't", []int{1}, rows("y.")},
		{"it can't later", []int{0, 0, 0}, rows("yy", "yy", ".y")},
		{"it can't at first", []int{1, 0}, rows("y.", "yy")},
		{"the first past the list", []int{2}, rows("yy")},
		{"the room behind", []int{2, 2}, [][]bool{truths("yyy")[:2], truths("yyy")[:2]}},
	} {
		n, e := sched.Most(c.l, c.can)
		wantNone(t, c.what, n, e, api.ErrArg)
	}
	for _, task := range far() {
		if task == 0 {
			continue
		}
		for _, l := range [][]int{{task}, {0, task}, {task, 0}} {
			n, e := sched.Most(l, slices.Repeat([][]bool{{true}}, len(l)))
			wantNone(t, "no such task", n, e, api.ErrArg)
		}
	}
}

// P15.3: all that three tasks can be in three steps, right or wrong.
func TestMostAll(t *testing.T) {
	all := allTruths(3)
	right := 0
	for x := range 8 * 8 * 8 {
		can := [][]bool{all[x%8], all[x/8%8], all[x/64]}
		for y := range 5 * 5 * 5 {
			l := []int{y%5 - 1, y/5%5 - 1, y/25 - 1}
			if couldBe(l, can) {
				right++
				wantMost(t, "all", l, can, most(l, can))
				continue
			}
			n, e := sched.Most(l, can)
			wantNone(t, "all", n, e, api.ErrArg)
		}
	}
	if right != 12*12*12 { // three lists of one truth, three of two, one of three
		t.Errorf("%d were right", right)
	}
}

// P15.3: drawn steps.
func TestMostDrawn(t *testing.T) {
	r := rand.New(rand.NewSource(153))
	for range 5000 {
		n := 1 + r.Intn(5)
		l, can := make([]int, r.Intn(20)), [][]bool(nil)
		for i := range l {
			x := drawnTruths(r, n, 3)
			l[i] = r.Intn(n)
			x[l[i]] = true
			can = append(can, x)
		}
		want := 0
		if len(l) > 0 {
			want = most(l, can)
		}
		wantMost(t, "drawn", l, can, want)
		if len(l) > 0 {
			can[r.Intn(len(l))][l[r.Intn(len(l))]] = false
			l[r.Intn(len(l))] += r.Intn(3) - 1
			if !couldBe(l, can) {
				m, e := sched.Most(l, can)
				wantNone(t, "spoilt", m, e, api.ErrArg)
			}
		}
	}
}

// P15.3: it asks for no bound of steps or tasks.
func TestMostLong(t *testing.T) {
	n := 2 * maxPicks
	wantMost(t, "many steps", make([]int, n), slices.Repeat(rows("yy"), n), n)
	wide := slices.Repeat([]bool{true}, n)
	wantMost(t, "many tasks", []int{n - 1, 0}, [][]bool{wide, wide}, 2)
}

// The rules: what is handed in is not changed, nor is the room behind it.
func TestMostLeaves(t *testing.T) {
	l, room := []int{0, 0, 1, 7, 7}, rows("yyy", "y.y", "yyy", "y", "y")
	can := slices.Clone(room)
	for i := range can {
		can[i] = slices.Clone(room[i])
	}
	short := [][]bool{can[0][:2], can[1][:2], can[2][:2], can[3], can[4]}
	wantMost(t, "room behind", l[:3], short[:3], 1)
	if !slices.Equal(l, []int{0, 0, 1, 7, 7}) || !slices.EqualFunc(can, room, slices.Equal) {
		t.Errorf("changed: %v %v", l, can)
	}
}
