package sched_test

import (
	"math/rand"
	"slices"
	"testing"

	"millrace/api"
	"millrace/sched"
)

// P15.2, P15.4: drawn steps are told as the chapter's words say, with its counts; Most of them is within the bound.
func TestDrawn(t *testing.T) {
	r := rand.New(rand.NewSource(154))
	for range 1500 {
		tasks, k, likely := 1+r.Intn(6), r.Intn(7), 2+r.Intn(3)
		f, seen := fair(t, tasks, k), told{}
		for range 40 {
			can, pick := drawnTruths(r, tasks, likely), r.Intn(9)
			want := seen.fairNext(k, can, pick)
			n, e := f.Next(can, pick)
			if want >= 0 && (n != want || e != api.OK) || want < 0 && (n != 0 || e != api.ErrIdle) {
				t.Fatalf("K %d, behind %v: Next(%v, %d): %d %v, want %d", k, seen, can, pick, n, e, want)
			}
			seen.add(can, want)
			wantPassed(t, "drawn", f, seen.counts(tasks)...)
		}
		wantWithin(t, &seen, tasks, k)
		if t.Failed() {
			t.FailNow()
		}
	}
}

// wantWithin asks Most of what a fair one told, between the steps in which none could go on, to be within the bound.
func wantWithin(t *testing.T, x *told, tasks, k int) {
	t.Helper()
	from := 0
	for i := 0; i <= len(x.tasks); i++ {
		if i < len(x.tasks) && x.tasks[i] >= 0 {
			continue
		}
		n, e := sched.Most(x.tasks[from:i], x.can[from:i])
		if n > bound(tasks, k) || e != api.OK {
			t.Errorf("%d tasks, K %d: Most(%v, %v): %d %v, want %d at most", tasks, k, x.tasks[from:i], x.can[from:i], n, e, bound(tasks, k))
		}
		from = i + 1
	}
}

// P15.4: the bound is come to, by picks that pass over all but the first task.
func TestBoundReached(t *testing.T) {
	for tasks := 1; tasks <= 6; tasks++ {
		for k := range 8 {
			f, seen := fair(t, tasks, k), told{}
			all := slices.Repeat([]bool{true}, tasks)
			for range 60 {
				n, _ := f.Next(all, 0)
				seen.add(all, n)
			}
			wantMost(t, "reached", seen.tasks, seen.can, bound(tasks, k))
		}
	}
}

// P15.4, P0.6: whatever the picks are, and whoever can go on: in all states to which a fair one of few tasks can come, no count is above the bound, and some are at it.
func TestBoundAlways(t *testing.T) {
	for _, c := range []struct{ tasks, k int }{{1, 0}, {1, 3}, {2, 0}, {2, 1}, {2, 5}, {3, 0}, {3, 1}, {3, 2}, {3, 4}, {4, 0}, {4, 1}, {4, 3}} {
		greatest := 0
		for _, f := range states(t, c.tasks, c.k) {
			greatest = max(greatest, slices.Max(f.Passed()))
		}
		if greatest != bound(c.tasks, c.k) {
			t.Errorf("%d tasks, K %d: passed over %d times, want %d", c.tasks, c.k, greatest, bound(c.tasks, c.k))
		}
	}
}

// states are fair ones in all states to which they can come, each state once.
func states(t *testing.T, tasks, k int) []*sched.Fair {
	t.Helper()
	begin := fair(t, tasks, k)
	out, known := []*sched.Fair{begin}, map[[4]int]bool{key(begin): true}
	for at := 0; at < len(out); at++ {
		if at > 20000 {
			t.Fatalf("%d tasks, K %d: states without end", tasks, k)
		}
		for _, can := range allTruths(tasks) {
			for pick := range tasks {
				f := out[at].Copy()
				f.Next(can, pick)
				if !known[key(f)] {
					known[key(f)] = true
					out = append(out, f)
				}
			}
		}
	}
	return out
}

// key is the counts of at most four tasks.
func key(f *sched.Fair) [4]int {
	var out [4]int
	copy(out[:], f.Passed())
	return out
}

// P15.4: with picks that rise by 1, and truths that stay, each task that can go on comes in turn, fair or not.
func TestInTurn(t *testing.T) {
	for n := 1; n <= 5; n++ {
		for _, can := range allTruths(n) {
			var turn []int
			for task := range can {
				if can[task] {
					turn = append(turn, task)
				}
			}
			if len(turn) == 0 {
				continue
			}
			for pick := range 4 * n {
				wantNext(t, "in turn", can, pick, turn[pick%len(turn)])
			}
			for k := range 8 {
				f := fair(t, n, k)
				for pick := range 4 * n {
					if task, e := f.Next(can, pick); task != turn[pick%len(turn)] || e != api.OK {
						t.Errorf("K %d: Next(%v, %d): %d %v", k, can, pick, task, e)
					}
				}
			}
		}
	}
}

// P15.4: Next of Pick is the task, of drawn long lists.
func TestNextOfPick(t *testing.T) {
	r := rand.New(rand.NewSource(155))
	for range 200 {
		can := drawnTruths(r, 1+r.Intn(300), 1+r.Intn(3))
		for task := range can {
			pick, e := sched.Pick(can, task)
			if !can[task] {
				wantNone(t, "it cannot", pick, e, api.ErrIdle)
				continue
			}
			wantNext(t, "of Pick", can, pick, task)
		}
	}
}
