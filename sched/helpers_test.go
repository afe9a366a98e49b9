package sched_test

import (
	"math"
	"math/rand"
	"slices"
	"testing"

	"millrace/api"
	"millrace/sched"
)

// maxPicks is the document's bound, as a number.
const maxPicks = 65536

// truths is a list of truths, as a text: y can go on.
func truths(s string) []bool {
	l := make([]bool, len(s))
	for i := range s {
		l[i] = s[i] == 'y'
	}
	return l
}

// rows are lists of truths, as texts.
func rows(l ...string) [][]bool {
	out := make([][]bool, len(l))
	for i, s := range l {
		out[i] = truths(s)
	}
	return out
}

// allTruths are all lists of n truths.
func allTruths(n int) [][]bool {
	var out [][]bool
	for x := range 1 << n {
		l := make([]bool, n)
		for i := range l {
			l[i] = x>>i&1 == 1
		}
		out = append(out, l)
	}
	return out
}

// drawnTruths are n truths; more of them hold the greater the likely is, out of 4.
func drawnTruths(r *rand.Rand, n, likely int) []bool {
	l := make([]bool, n)
	for i := range l {
		l[i] = r.Intn(4) < likely
	}
	return l
}

// far are numbers at which a call must end, too.
func far() []int {
	return []int{math.MinInt, math.MinInt + 1, math.MinInt32, -65536, -2, -1, 0, 1, 2, 3, 65535, 65536, 65537, math.MaxInt32, math.MaxInt - 1, math.MaxInt}
}

// wantNext asks Next by this pick for this task.
func wantNext(t *testing.T, what string, can []bool, pick, want int) {
	t.Helper()
	if n, e := sched.Next(can, pick); n != want || e != api.OK {
		t.Errorf("%s: Next(%v, %d): %d %v, want %d", what, short(can), pick, n, e, want)
	}
}

// wantPick asks Pick of this task for this pick.
func wantPick(t *testing.T, what string, can []bool, task, want int) {
	t.Helper()
	if n, e := sched.Pick(can, task); n != want || e != api.OK {
		t.Errorf("%s: Pick(%v, %d): %d %v, want %d", what, short(can), task, n, e, want)
	}
}

// wantNone asks for this error, and nothing beside it.
func wantNone(t *testing.T, what string, n int, e, want api.Errno) {
	t.Helper()
	if n != 0 || e != want {
		t.Errorf("%s: %d %v, want %v", what, n, e, want)
	}
}

// fair makes a fair one.
func fair(t *testing.T, tasks, k int) *sched.Fair {
	t.Helper()
	f, e := sched.New(tasks, k)
	if f == nil || e != api.OK {
		t.Fatalf("New(%d, %d): %v %v", tasks, k, f, e)
	}
	return f
}

// wantFair asks a fair one by this pick for this task, and then for these counts.
func wantFair(t *testing.T, what string, f *sched.Fair, can []bool, pick, want int, passed ...int) {
	t.Helper()
	if n, e := f.Next(can, pick); n != want || e != api.OK {
		t.Errorf("%s: Next(%v, %d): %d %v, want %d", what, short(can), pick, n, e, want)
	}
	wantPassed(t, what, f, passed...)
}

// wantPassed asks a fair one for these counts.
func wantPassed(t *testing.T, what string, f *sched.Fair, want ...int) {
	t.Helper()
	if got := f.Passed(); !slices.Equal(got, want) {
		t.Errorf("%s: Passed: %v, want %v", what, got, want)
	}
}

// wantMost asks Most for this number.
func wantMost(t *testing.T, what string, l []int, can [][]bool, want int) {
	t.Helper()
	if n, e := sched.Most(l, can); n != want || e != api.OK {
		t.Errorf("%s: Most(%v, %v): %d %v, want %d", what, l, can, n, e, want)
	}
}

// short is what of a list may stand in a test's report.
func short(l []bool) any {
	if len(l) > 20 {
		return len(l)
	}
	return l
}
