package gather_test

import (
	"math/rand"
	"testing"

	"millrace/api"
	"millrace/gather"
	"millrace/record"
)

// plan asks Plan, and fails if it is refused.
func plan(t *testing.T, take int, l []list) []int {
	t.Helper()
	p, e := gather.Plan(take, l...)
	if e != api.OK {
		t.Fatal(take, len(l), e)
	}
	return p
}

// count asks Count, and fails if it is refused.
func count(t *testing.T, take int, l []list) int {
	t.Helper()
	n, e := gather.Count(take, l...)
	if e != api.OK {
		t.Fatal(take, len(l), e)
	}
	return n
}

// followed draws lists and a take for each time that what follows is asked.
func followed(seed int64, ask func(take int, l []list)) {
	r := rand.New(rand.NewSource(seed))
	for range 300 {
		ask(1+r.Intn(7), drawn(r, 14))
	}
}

// P6.5: numbers from 1 on, together as many as there are lists, none above take.
func TestPlanNumbers(t *testing.T) {
	followed(651, func(take int, l []list) {
		sum := 0
		for _, n := range plan(t, take, l) {
			if n < 1 || n > take {
				t.Error(take, n)
			}
			sum += n
		}
		if sum != len(l) {
			t.Error(take, sum, len(l))
		}
	})
}

// P6.5, P0.6: a batch ends where the next list would not go into it, or where it has take lists; each is one that Put takes.
func TestBatchesAreFull(t *testing.T) {
	both := map[bool]int{}
	followed(652, func(take int, l []list) {
		at, base := 0, int64(9)
		for i, b := range told(t, take, base, l...) {
			if i > 0 {
				last := l[:at]
				n := plan(t, take, l)[i-1]
				ahead := last[len(last)-n:]
				_, e := gather.Together(append(ahead[:n:n], l[at])...)
				both[e == api.OK]++
				if e == api.OK && n != take {
					t.Errorf("by %d: batch %d has %d, and room", take, i-1, n)
				}
			}
			if _, e := record.Put(b.Batch); e != api.OK {
				t.Error(take, i, e)
			}
			at += b.n
		}
	})
	if both[true] < 50 || both[false] < 50 {
		t.Error("lists drawn ill", both)
	}
}

// P6.5: all records, in order, each once; each batch's Base is the offset behind the one ahead.
func TestBatchesHaveAll(t *testing.T) {
	followed(653, func(take int, l []list) {
		var records list
		next := int64(1 << 30)
		for _, b := range told(t, take, next, l...) {
			if b.Base != next {
				t.Error(take, b.Base, next)
			}
			next += int64(len(b.Records))
			records = append(records, b.Records...)
		}
		if !same(records, all(l)) {
			t.Error(take, len(l), len(records))
		}
		if _, end, e := gather.Offsets(1<<30, l...); end != next || e != api.OK {
			t.Error(end, next, e)
		}
	})
}

// P6.5: Count of all is the first one of Plan, and of what is left the next one.
func TestCountIsFirst(t *testing.T) {
	followed(654, func(take int, l []list) {
		p := plan(t, take, l)
		if len(p) == 0 && count(t, take, l) != 0 {
			t.Error("taken of none")
		}
		for i, n := range p {
			if count(t, take, l) != n {
				t.Error(take, i, n)
			}
			l = l[n:]
		}
	})
}

// P6.5: with a greater take no fewer are taken, and no more than it.
func TestGreaterTake(t *testing.T) {
	followed(655, func(_ int, l []list) {
		last := 0
		for take := 1; take < len(l)+3; take++ {
			n := count(t, take, l)
			if n < last || n > take || n == 0 && len(l) > 0 {
				t.Error(take, n, last)
			}
			last = n
		}
	})
}

// P6.5: what Take takes, time by time, is what Plan says of all, and its records are those of the batches.
func TestTakesAsPlanned(t *testing.T) {
	followed(656, func(take int, l []list) {
		q := queue(t, 14, take, produces(l...)...)
		for _, b := range told(t, take, 0, l...) {
			c, r, e := gather.Take(q, take)
			if len(c) != b.n || !same(r, b.Records) || e != api.OK {
				t.Error(take, len(c), b.n, e)
			}
		}
		if q.Len() != 0 {
			t.Error(take, q.Len())
		}
	})
}
