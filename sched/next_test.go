package sched_test

import (
	"math"
	"slices"
	"testing"

	"millrace/api"
	"millrace/sched"
)

// P15.1: the chapter's examples.
func TestNextExample(t *testing.T) {
	can := truths("y.y")
	wantNext(t, "example", can, 0, 0)
	wantNext(t, "example", can, 1, 2)
	wantNext(t, "example", can, 5, 2)
	n, e := sched.Next(truths("."), 0)
	wantNone(t, "none can", n, e, api.ErrIdle)
	n, e = sched.Next(truths("y"), -1)
	wantNone(t, "below 0", n, e, api.ErrArg)
	wantPick(t, "example", can, 2, 1)
	n, e = sched.Pick(can, 1)
	wantNone(t, "it cannot", n, e, api.ErrIdle)
	n, e = sched.Pick(can, 3)
	wantNone(t, "no such task", n, e, api.ErrArg)
}

// P15.1: all lists of few truths, by picks up to the greatest.
func TestNextAll(t *testing.T) {
	picks := []int{math.MaxInt, math.MaxInt - 1, math.MaxInt32, 1 << 32, maxPicks, maxPicks + 1}
	for pick := range 20 {
		picks = append(picks, pick)
	}
	for n := range 7 {
		for _, can := range allTruths(n) {
			for _, pick := range picks {
				want, ok := next(can, pick)
				if ok {
					wantNext(t, "all", can, pick, want)
					continue
				}
				got, e := sched.Next(can, pick)
				wantNone(t, "none can", got, e, api.ErrIdle)
			}
		}
	}
}

// P15.1: a pick below 0 is told ahead of that none can go on.
func TestNextWrong(t *testing.T) {
	for _, can := range [][]bool{nil, {}, {false}, {true}, truths("y.y"), truths("...")} {
		for _, pick := range far() {
			want := api.ErrArg
			if pick >= 0 {
				if slices.Contains(can, true) {
					continue
				}
				want = api.ErrIdle
			}
			n, e := sched.Next(can, pick)
			wantNone(t, "wrong", n, e, want)
		}
	}
}

// P15.1: all tasks of all lists of few truths: the least pick by which Next tells them.
func TestPickAll(t *testing.T) {
	for n := range 7 {
		for _, can := range allTruths(n) {
			for task := range can {
				if !can[task] {
					got, e := sched.Pick(can, task)
					wantNone(t, "it cannot", got, e, api.ErrIdle)
					continue
				}
				least := 0
				for x, _ := next(can, least); x != task; x, _ = next(can, least) {
					least++
				}
				wantPick(t, "all", can, task, least)
			}
		}
	}
}

// P15.1: a task that is not in the list is told ahead of that none can go on; the room behind a list is no part of it.
func TestPickWrong(t *testing.T) {
	room := truths("yyyy")
	for _, can := range [][]bool{nil, {}, {false}, {true}, truths("y.y"), truths("..."), room[:2]} {
		for _, task := range append(far(), len(can), len(can)+1) {
			if task >= 0 && task < len(can) {
				continue
			}
			n, e := sched.Pick(can, task)
			wantNone(t, "no such task", n, e, api.ErrArg)
		}
	}
}

// P15.1: these two ask for no bound of tasks.
func TestNextLong(t *testing.T) {
	can := make([]bool, 3*maxPicks)
	n, e := sched.Next(can, 7)
	wantNone(t, "none can", n, e, api.ErrIdle)
	can[0], can[maxPicks], can[3*maxPicks-1] = true, true, true
	for pick, want := range []int{0, maxPicks, 3*maxPicks - 1, 0, maxPicks} {
		wantNext(t, "long", can, pick, want)
	}
	for pick, task := range []int{0, maxPicks, 3*maxPicks - 1} {
		wantPick(t, "long", can, task, pick)
	}
	n, e = sched.Pick(can, 1)
	wantNone(t, "it cannot", n, e, api.ErrIdle)
	n, e = sched.Pick(can, 3*maxPicks)
	wantNone(t, "no such task", n, e, api.ErrArg)
}

// The rules: what is handed in is not changed, nor is the room behind it, which tells nothing.
func TestNextLeaves(t *testing.T) {
	for _, room := range allTruths(6) {
		was := slices.Clone(room)
		for n := range 4 {
			can := room[:n]
			for x := range 6 {
				a, e := sched.Next(can, x)
				b, f := sched.Next(slices.Clip(slices.Clone(can)), x)
				if a != b || e != f {
					t.Errorf("Next(%v, %d) goes by the room behind: %d %v, %d %v", can, x, a, e, b, f)
				}
				sched.Pick(can, x)
			}
		}
		if !slices.Equal(room, was) {
			t.Errorf("%v has become %v", was, room)
		}
	}
}
