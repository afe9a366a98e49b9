package core_test

import (
	"math/rand"
	"testing"

	"millrace/api"
	"millrace/sched"
)

// gap is the bound of layer 25: within so many picks each task that can go on has its step.
func gap(tasks, k int) int { return max(k, 1) + tasks - 1 }

// P16.6, P0.6: if nobody is passed over more than K times in a row, each call returns within the picks that layer 25 tells, whatever the picks are.
func TestBound(t *testing.T) {
	r := rand.New(rand.NewSource(168))
	for round := range 400 {
		c, k := drawnConfig(r), r.Intn(6)
		w := watched(t, c)
		picks := []func() int{func() int { return 0 }, func() int { return 1 << 30 }, func() int { return r.Intn(9) }}[round%3]
		w.wantBounded(t, r, k, picks)
		if t.Failed() {
			t.FailNow()
		}
	}
}

// wantBounded lets each client do some calls by a fair one of that K, and holds each to its bound.
func (w *watcher) wantBounded(t *testing.T, r *rand.Rand, k int, pick func() int) {
	t.Helper()
	c := w.plain.config
	tasks := c.Clients + c.Parts
	fair, e := sched.New(tasks, k)
	oks(t, e)
	left, took := make([][]api.Call, c.Clients), make([]int, c.Clients)
	for client := range left {
		for n := range 1 + r.Intn(4) {
			left[client] = append(left[client], drawnCall(r, c.Parts, 5, 10*client+n))
		}
	}
	for {
		w.beginAll(t, left)
		task, e := fair.Next(w.core.Can(), pick())
		if e == api.ErrIdle {
			break
		}
		oks(t, e)
		for client := range took {
			if s, _ := w.core.Client(client); s != api.ClientIdle {
				took[client]++
			}
		}
		w.follow(t, task)
		w.wantSound(t)
		if task >= c.Clients {
			continue
		}
		bound := gap(tasks, k)
		if w.calls[task].Kind == api.CallProduce {
			bound *= 5*c.Queue + 5
		}
		if took[task] > bound {
			t.Errorf("P0.6: %v, K %d: a call took %d picks, want %d at most", c, k, took[task], bound)
		}
		took[task] = 0
	}
	w.wantEnded(t)
	if n := w.core.Counts(); n.Syncs != n.Batches {
		t.Errorf("P0.6: %v", n)
	}
}

// P0.6, the document's example 10: of one client a Produce takes six picks, a Fetch one.
func TestBoundAlone(t *testing.T) {
	for k := range 3 {
		w := watched(t, config(1, 1, 2, 2))
		fair, e := sched.New(2, k)
		oks(t, e)
		for i, x := range []api.Call{produce(0, one()), fetch(0, 0, 1), produce(0, one())} {
			w.begin(t, 0, x)
			took := 0
			for {
				task, e := fair.Next(w.core.Can(), 0)
				if e == api.ErrIdle {
					break
				}
				w.follow(t, task)
				took++
			}
			if took != []int{6, 1, 6}[i] {
				t.Errorf("K %d: call %d took %d picks", k, i, took)
			}
		}
	}
}
