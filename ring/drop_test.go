package ring_test

import (
	"math"
	"slices"
	"testing"

	"millrace/api"
)

// P4.2: from each first place on, of each number of things, each number of them; one too many takes none.
func TestDrop(t *testing.T) {
	for _, bound := range []int{1, 2, 3, 5} {
		for first := range bound {
			for in := range bound + 1 {
				for n := range in + 3 {
					r := turned(t, bound, first, from(1, in)...)
					got, e := r.Drop(n)
					if n > in {
						if len(got) != 0 || e != api.ErrRange {
							t.Errorf("bound %d, first %d: Drop(%d) of %d: %v %v", bound, first, n, in, got, e)
						}
						wantRing(t, "refused", r, bound, from(1, in)...)
						continue
					}
					if !slices.Equal(got, from(1, n)) || e != api.OK {
						t.Errorf("bound %d, first %d: Drop(%d) of %d: %v %v", bound, first, n, in, got, e)
					}
					wantRing(t, "dropped", r, bound, from(n+1, in-n)...)
					put(t, r, from(in+1, bound-in+n)...)
					wantRing(t, "filled up", r, bound, from(n+1, bound)...)
				}
			}
		}
	}
}

// P4.2: 0 and all at the greatest bound.
func TestDropMost(t *testing.T) {
	r := turned(t, api.MaxQueue, 77, from(0, api.MaxQueue)...)
	if l, e := r.Drop(0); len(l) != 0 || e != api.OK {
		t.Error(l, e)
	}
	if l, e := r.Drop(api.MaxQueue + 1); len(l) != 0 || e != api.ErrRange {
		t.Error(l, e)
	}
	wantRing(t, "none", r, api.MaxQueue, from(0, api.MaxQueue)...)
	if l, e := r.Drop(api.MaxQueue); !slices.Equal(l, from(0, api.MaxQueue)) || e != api.OK {
		t.Error(l, e)
	}
	wantRing(t, "all", r, api.MaxQueue)
}

// P4.2: counts that may not be, and those that are not there, leave it as it is.
func TestDropWrong(t *testing.T) {
	for in := range 3 {
		r := turned(t, 2, 1, from(4, in)...)
		for _, n := range []int{-1, -2, -257, math.MinInt, math.MinInt + 1} {
			if l, e := r.Drop(n); len(l) != 0 || e != api.ErrArg {
				t.Error(in, n, l, e)
			}
		}
		for _, n := range []int{in + 1, in + 2, 1 << 40, math.MaxInt - 1, math.MaxInt} {
			if l, e := r.Drop(n); len(l) != 0 || e != api.ErrRange {
				t.Error(in, n, l, e)
			}
		}
		wantRing(t, "wrong", r, 2, from(4, in)...)
	}
}

// P4.2: the last place, and all places that are not there; looking takes nothing.
func TestPeek(t *testing.T) {
	for _, bound := range []int{1, 2, 3, api.MaxQueue} {
		for _, first := range []int{0, bound - 1, bound / 2} {
			for _, in := range []int{0, 1, bound / 2, bound} {
				r := turned(t, bound, first, from(3, in)...)
				for i := range in {
					if x, e := r.Peek(i); x != 3+i || e != api.OK {
						t.Errorf("bound %d, first %d: Peek(%d) of %d: %v %v", bound, first, i, in, x, e)
					}
				}
				for _, i := range []int{-1, -2, -bound, in, in + 1, bound, bound + 1, 2 * bound, math.MinInt, math.MaxInt, math.MaxInt - 1} {
					if x, e := r.Peek(i); x != 0 || e != api.ErrRange {
						t.Errorf("bound %d, first %d: Peek(%d) of %d: %v %v", bound, first, i, in, x, e)
					}
				}
				wantRing(t, "peeked", r, bound, from(3, in)...)
			}
		}
	}
}

// P4.2: what was taken out is at no place any more, not even where it stood.
func TestPeekBehind(t *testing.T) {
	r := turned(t, 3, 2, 1, 2, 3)
	r.Take()
	r.Drop(1)
	for i := 1; i < 7; i++ {
		if x, e := r.Peek(i); x != 0 || e != api.ErrRange {
			t.Error(i, x, e)
		}
	}
	wantRing(t, "one left", r, 3, 3)
}

// P4.2: all, in order; List leaves them, Clear does not.
func TestListClear(t *testing.T) {
	for _, bound := range []int{1, 2, 3, 4, api.MaxQueue} {
		for _, first := range []int{0, 1 % bound, bound / 2, bound - 1} {
			for _, in := range []int{0, 1, bound / 2, bound - 1, bound} {
				r := turned(t, bound, first, from(1, in)...)
				for range 2 {
					if l := r.List(); !slices.Equal(l, from(1, in)) {
						t.Error(bound, first, in, l)
					}
				}
				if l := r.Clear(); !slices.Equal(l, from(1, in)) {
					t.Error(bound, first, in, l)
				}
				wantRing(t, "cleared", r, bound)
				if l := r.Clear(); len(l) != 0 {
					t.Error(bound, first, in, l)
				}
				put(t, r, from(7, bound)...)
				wantRing(t, "filled again", r, bound, from(7, bound)...)
			}
		}
	}
}
