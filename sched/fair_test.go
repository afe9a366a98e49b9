package sched_test

import (
	"math"
	"math/rand"
	"slices"
	"testing"

	"millrace/api"
	"millrace/sched"
)

// P15.2: the chapter's examples.
func TestFairExample(t *testing.T) {
	f := fair(t, 2, 1)
	wantPassed(t, "new", f, 0, 0)
	wantFair(t, "first", f, truths("yy"), 0, 0, 0, 1)
	wantFair(t, "second", f, truths("yy"), 0, 1, 1, 0)
	wantFair(t, "third", f, truths("yy"), 0, 0, 0, 1)
	g, e := sched.New(0, 1)
	wantNoFair(t, "New(0, 1)", g, e)
}

// wantNoFair asks for no fair one, and ErrArg.
func wantNoFair(t *testing.T, what string, f *sched.Fair, e api.Errno) {
	t.Helper()
	if f != nil || e != api.ErrArg {
		t.Errorf("%s: %v %v, want ErrArg", what, f, e)
	}
}

// P15.2: the bounds of New: 1 to MaxPicks tasks, any K from 0 on.
func TestNewBounds(t *testing.T) {
	for _, k := range far() {
		for _, tasks := range far() {
			f, e := sched.New(tasks, k)
			if tasks < 1 || tasks > maxPicks || k < 0 {
				wantNoFair(t, "New", f, e)
			} else if f == nil || e != api.OK || !slices.Equal(f.Passed(), make([]int, tasks)) {
				t.Errorf("New(%d, %d): %v", tasks, k, e)
			}
		}
	}
}

// P15.2: as many tasks as may be.
func TestFairMany(t *testing.T) {
	f := fair(t, maxPicks, 1)
	can := make([]bool, maxPicks)
	for i := range can {
		can[i] = true
	}
	n, e := f.Next(can[:maxPicks-1], 0)
	wantNone(t, "one too few", n, e, api.ErrArg)
	n, e = f.Next(append(slices.Clone(can), true), 0)
	wantNone(t, "one too many", n, e, api.ErrArg)
	passed := slices.Repeat([]int{1}, maxPicks)
	passed[maxPicks-1] = 0
	wantFair(t, "by the pick", f, can, maxPicks-1, maxPicks-1, passed...)
	for i := range passed {
		passed[i]++
	}
	passed[0], passed[maxPicks-1] = 0, 1
	wantFair(t, "by fairness", f, can, maxPicks-1, 0, passed...)
}

// P15.2: nil and zero ones answer ErrNil and nothing, ahead of all other errors.
func TestFairNil(t *testing.T) {
	var zero sched.Fair
	for what, f := range map[string]*sched.Fair{"nil": nil, "zero": &zero} {
		for _, can := range [][]bool{nil, {}, {true}, {false}} {
			for _, pick := range []int{0, 1, -1} {
				n, e := f.Next(can, pick)
				wantNone(t, what, n, e, api.ErrNil)
			}
		}
		if f.Copy() != nil {
			t.Errorf("%s: Copy is there", what)
		}
		if l := f.Passed(); len(l) != 0 {
			t.Errorf("%s: Passed: %v", what, l)
		}
	}
	f, _ := sched.New(1, -1)
	n, e := f.Next(truths("y"), 0)
	wantNone(t, "refused by New", n, e, api.ErrNil)
}

// P15.2: what is wrong is told ahead of that none can go on, and changes no count.
func TestFairWrong(t *testing.T) {
	f := fair(t, 3, 5)
	wantFair(t, "ahead", f, truths("yyy"), 1, 1, 1, 0, 1)
	wantFair(t, "ahead", f, truths("y.y"), 1, 2, 2, 0, 0)
	for _, can := range [][]bool{nil, {}, truths("y"), truths("yy"), truths("yyyy"), truths("..")} {
		for _, pick := range far() {
			n, e := f.Next(can, pick)
			wantNone(t, "another length", n, e, api.ErrArg)
		}
	}
	for _, can := range allTruths(3) {
		for _, pick := range []int{-1, -3, math.MinInt, math.MinInt32} {
			n, e := f.Next(can, pick)
			wantNone(t, "a pick below 0", n, e, api.ErrArg)
		}
	}
	wantPassed(t, "as it was", f, 2, 0, 0)
	wantFair(t, "behind", f, truths("yyy"), 4, 1, 3, 0, 1)
}

// P15.2: whatever the pick is, one below 0 is refused, even if fairness would not ask for it.
func TestFairWrongOverdue(t *testing.T) {
	f := fair(t, 2, 1)
	wantFair(t, "ahead", f, truths("yy"), 0, 0, 0, 1)
	n, e := f.Next(truths("yy"), -1)
	wantNone(t, "a pick below 0", n, e, api.ErrArg)
	wantFair(t, "behind", f, truths("yy"), math.MaxInt, 1, 1, 0)
}

// P15.2: if none can go on, all counts are 0 from then on.
func TestFairIdle(t *testing.T) {
	f := fair(t, 3, 2)
	wantFair(t, "ahead", f, truths("yyy"), 0, 0, 0, 1, 1)
	wantFair(t, "ahead", f, truths("yyy"), 0, 0, 0, 2, 2)
	n, e := f.Next(truths("..."), 1)
	wantNone(t, "none can", n, e, api.ErrIdle)
	wantPassed(t, "cleared", f, 0, 0, 0)
	wantFair(t, "nobody is due", f, truths("yyy"), 0, 0, 0, 1, 1)
	n, e = f.Next(make([]bool, 3), math.MaxInt)
	wantNone(t, "none can", n, e, api.ErrIdle)
	n, e = f.Next(make([]bool, 3), 0)
	wantNone(t, "none can once more", n, e, api.ErrIdle)
	wantPassed(t, "cleared", f, 0, 0, 0)
}

// P15.2: one that cannot go on is not passed over: it begins anew.
func TestFairCannot(t *testing.T) {
	f := fair(t, 3, 2)
	wantFair(t, "ahead", f, truths("yyy"), 0, 0, 0, 1, 1)
	wantFair(t, "1 cannot", f, truths("y.y"), 0, 0, 0, 0, 2)
	wantFair(t, "2 is due, but cannot", f, truths("yy."), 0, 0, 0, 1, 0)
	wantFair(t, "nobody is due", f, truths("yyy"), 2, 2, 1, 2, 0)
	wantFair(t, "1 is due", f, truths("yyy"), 2, 1, 2, 0, 1)
}

// P15.2: one that is due at a K of many goes next, by none of the picks.
func TestFairOverdue(t *testing.T) {
	for k := 1; k < 8; k++ {
		for _, pick := range []int{0, 2, 4, maxPicks, math.MaxInt - 1} { // each tells task 0 of two
			f := fair(t, 2, k)
			for n := range k {
				wantFair(t, "not due", f, truths("yy"), pick, 0, 0, n+1)
			}
			wantFair(t, "due", f, truths("yy"), pick, 1, 1, 0)
		}
	}
}

// P15.2: of several that are due the one goes that was passed over most often, of those the one with the least number.
func TestFairSeveral(t *testing.T) {
	f := fair(t, 4, 1)
	wantFair(t, "0 by the pick", f, truths("y..y"), 0, 0, 0, 0, 0, 1)
	wantFair(t, "3 is due alone", f, truths("yyyy"), 0, 3, 1, 1, 1, 0)
	wantFair(t, "0 of three", f, truths("yyyy"), 3, 0, 0, 2, 2, 1)
	wantFair(t, "1 of two", f, truths("yyyy"), 3, 1, 1, 0, 3, 2)
	wantFair(t, "2 is most due", f, truths("yyyy"), 0, 2, 2, 1, 0, 3)
	wantFair(t, "3 is, not the least", f, truths("yyyy"), 0, 3, 3, 2, 1, 0)
	wantFair(t, "0 is, but cannot", f, truths(".yyy"), 2, 1, 0, 0, 2, 1)
}

// P15.2: those that are due, but not K times, go by the pick.
func TestFairBelow(t *testing.T) {
	f := fair(t, 3, 3)
	wantFair(t, "1", f, truths("yyy"), 1, 1, 1, 0, 1)
	wantFair(t, "1 again", f, truths("yyy"), 4, 1, 2, 0, 2)
	wantFair(t, "2, though 0 is as often passed over", f, truths("yyy"), 2, 2, 3, 1, 0)
	wantFair(t, "0 is due", f, truths("yyy"), 2, 0, 0, 2, 1)
}

// P15.2: with K 0 no pick tells anything; the one that was passed over most often goes always.
func TestFairNone(t *testing.T) {
	for _, pick := range []int{0, 1, 2, math.MaxInt} {
		f := fair(t, 3, 0)
		wantFair(t, "the least number", f, truths("yyy"), pick, 0, 0, 1, 1)
		wantFair(t, "the least of the rest", f, truths("yyy"), pick, 1, 1, 0, 2)
		wantFair(t, "the last", f, truths("yyy"), pick, 2, 2, 1, 0)
		wantFair(t, "the first can't", f, truths(".yy"), pick, 1, 0, 0, 1)
		wantFair(t, "the last can't", f, truths("yy."), pick, 0, 0, 1, 0)
	}
}

// P15.2: with a K that is not come to, each goes by its pick.
func TestFairLate(t *testing.T) {
	r := rand.New(rand.NewSource(15))
	for _, k := range []int{maxPicks, math.MaxInt32, math.MaxInt} {
		f := fair(t, 5, k)
		for range 2000 {
			can, pick := drawnTruths(r, 5, 3), r.Int()
			n, e := f.Next(can, pick)
			if m, d := sched.Next(can, pick); n != m || e != d {
				t.Fatalf("K %d: Next(%v, %d): %d %v, want %d %v", k, can, pick, n, e, m, d)
			}
		}
	}
}

// P15.2: a K of many steps is kept to the step.
func TestFairGreatK(t *testing.T) {
	f := fair(t, 3, maxPicks)
	can := truths("yy.")
	for n := range maxPicks {
		if task, e := f.Next(can, 0); task != 0 || e != api.OK {
			t.Fatalf("step %d: %d %v", n, task, e)
		}
	}
	wantFair(t, "it is due", f, can, 0, 1, 1, 0, 0)
}

// P15.2: one task is never passed over.
func TestFairOne(t *testing.T) {
	for _, k := range []int{0, 1, math.MaxInt} {
		f := fair(t, 1, k)
		for _, pick := range []int{0, 1, 77, math.MaxInt} {
			wantFair(t, "one", f, truths("y"), pick, 0, 0)
		}
		n, e := f.Next(truths("."), 0)
		wantNone(t, "it cannot", n, e, api.ErrIdle)
	}
}

// P15.2: a copy has its counts and its K, and both go on apart.
func TestFairCopy(t *testing.T) {
	f := fair(t, 3, 2)
	wantFair(t, "ahead", f, truths("yyy"), 0, 0, 0, 1, 1)
	g := f.Copy()
	wantPassed(t, "the copy", g, 0, 1, 1)
	wantFair(t, "the first goes on", f, truths("yyy"), 1, 1, 1, 0, 2)
	wantPassed(t, "the copy stays", g, 0, 1, 1)
	wantFair(t, "the copy goes on", g, truths("yyy"), 0, 0, 0, 2, 2)
	wantFair(t, "by its K", g, truths("yyy"), 0, 1, 1, 0, 3)
	wantPassed(t, "the first stays", f, 1, 0, 2)
	wantFair(t, "by its K", f, truths("yyy"), 0, 2, 2, 1, 0)
	if n, e := g.Next(truths("yy"), 0); n != 0 || e != api.ErrArg {
		t.Errorf("the copy has as many tasks: %d %v", n, e)
	}
	wantPassed(t, "a copy of a new one", fair(t, 4, 0).Copy(), 0, 0, 0, 0)
	wantPassed(t, "a copy's copy", f.Copy().Copy(), 2, 1, 0)
}

// P15.2, the rules: what is handed in is neither changed nor kept, and Passed is new memory each time.
func TestFairShares(t *testing.T) {
	f := fair(t, 3, 9)
	room := truths("yyyyy")
	can := room[:3]
	wantFair(t, "ahead", f, can, 1, 1, 1, 0, 1)
	if !slices.Equal(room, truths("yyyyy")) {
		t.Errorf("the list has become %v", room)
	}
	clear(room)
	wantPassed(t, "not kept", f, 1, 0, 1)
	l, m := f.Passed(), f.Passed()
	l = l[:cap(l)]
	for i := range l {
		l[i] = 100
	}
	if !slices.Equal(m, []int{1, 0, 1}) {
		t.Errorf("two answers share: %v", m)
	}
	wantFair(t, "not shared", f, truths("yyy"), 1, 1, 2, 0, 2)
	if !slices.Equal(m, []int{1, 0, 1}) {
		t.Errorf("an answer goes on: %v", m)
	}
}

// P15.2: two fair ones do not share.
func TestFairApart(t *testing.T) {
	f, g := fair(t, 2, 3), fair(t, 2, 1)
	wantFair(t, "one", f, truths("yy"), 0, 0, 0, 1)
	wantPassed(t, "the other", g, 0, 0)
	wantFair(t, "the other", g, truths("yy"), 1, 1, 1, 0)
	wantPassed(t, "one", f, 0, 1)
}
