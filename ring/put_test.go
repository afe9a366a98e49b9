package ring_test

import (
	"math"
	"slices"
	"testing"

	"millrace/api"
	"millrace/ring"
)

func fresh[T any](t *testing.T, bound int) *ring.Ring[T] {
	t.Helper()
	r, e := ring.New[T](bound)
	if r == nil || e != api.OK {
		t.Fatalf("New(%d): %v", bound, e)
	}
	return r
}

// turned is a queue whose first place is the given one, with the given things.
func turned(t *testing.T, bound, first int, l ...int) *ring.Ring[int] {
	t.Helper()
	r := fresh[int](t, bound)
	for range first {
		put(t, r, -1)
		if x, e := r.Take(); x != -1 || e != api.OK {
			t.Fatal(x, e)
		}
	}
	put(t, r, l...)
	return r
}

func put[T any](t *testing.T, r *ring.Ring[T], l ...T) {
	t.Helper()
	if e := r.Put(l...); e != api.OK {
		t.Fatalf("Put of %d: %v", len(l), e)
	}
}

// from is n numbers that rise by 1.
func from(first, n int) []int {
	out := make([]int, n)
	for i := range out {
		out[i] = first + i
	}
	return out
}

// wantRing asks all that tells how a queue stands.
func wantRing[T comparable](t *testing.T, what string, r *ring.Ring[T], bound int, want ...T) {
	t.Helper()
	if got := r.List(); !slices.Equal(got, want) {
		t.Errorf("%s: List: got %v, want %v", what, got, want)
	}
	if r.Len() != len(want) || r.Bound() != bound || r.Full() != (len(want) == bound) {
		t.Errorf("%s: got %d of %d, full %v, want %d of %d", what, r.Len(), r.Bound(), r.Full(), len(want), bound)
	}
	for i, x := range want {
		if got, e := r.Peek(i); got != x || e != api.OK {
			t.Errorf("%s: Peek(%d): got %v %v, want %v", what, i, got, e, x)
		}
	}
	if _, e := r.Peek(len(want)); e != api.ErrRange {
		t.Errorf("%s: Peek behind the last: %v", what, e)
	}
	n := 0
	for i, x := range r.All() {
		if i != n || i >= len(want) || x != want[i] {
			t.Errorf("%s: All: %v at %d, place %d", what, x, i, n)
		}
		n++
	}
	if n != len(want) {
		t.Errorf("%s: All: %d things, want %d", what, n, len(want))
	}
}

// P4.1: bounds at the edges, and one past each.
func TestNew(t *testing.T) {
	for _, bound := range []int{1, 2, 3, 255, api.MaxQueue} {
		wantRing(t, "new", fresh[int](t, bound), bound)
	}
	for _, bound := range []int{0, -1, api.MaxQueue + 1, 1 << 20, math.MinInt, math.MaxInt} {
		if r, e := ring.New[string](bound); r != nil || e != api.ErrArg {
			t.Errorf("New(%d): %v %v", bound, r, e)
		}
	}
}

// P4.1: the chapter's examples, as one run.
func TestExamples(t *testing.T) {
	r := fresh[int](t, 2)
	for i, c := range []struct {
		l    []int
		want api.Errno
	}{{[]int{1}, api.OK}, {[]int{2, 3}, api.ErrFull}, {[]int{2}, api.OK}, {[]int{3}, api.ErrFull}, {nil, api.OK}} {
		if e := r.Put(c.l...); e != c.want {
			t.Error(i, e)
		}
	}
	wantRing(t, "full", r, 2, 1, 2)
	if x, e := r.Take(); x != 1 || e != api.OK {
		t.Error(x, e)
	}
	put(t, r, 3)
	wantRing(t, "gone round", r, 2, 2, 3)
	if l, e := r.Drop(3); len(l) != 0 || e != api.ErrRange {
		t.Error(l, e)
	}
	if l, e := r.Drop(2); !slices.Equal(l, []int{2, 3}) || e != api.OK {
		t.Error(l, e)
	}
	if x, e := r.Take(); x != 0 || e != api.ErrRange {
		t.Error(x, e)
	}
	wantRing(t, "empty", r, 2)
}

// P4.1: from each first place on, with each number of things in it, all that there is room for goes in, and nothing of what is one more.
func TestPut(t *testing.T) {
	for _, bound := range []int{1, 2, 3, 5} {
		for first := range bound {
			for in := range bound + 1 {
				for more := range bound + 3 {
					r := turned(t, bound, first, from(10, in)...)
					want, wantErr := from(10, in+more), api.OK
					if in+more > bound {
						want, wantErr = from(10, in), api.ErrFull
					}
					if e := r.Put(from(10+in, more)...); e != wantErr {
						t.Errorf("bound %d, first %d: Put of %d behind %d: %v", bound, first, more, in, e)
					}
					wantRing(t, "put", r, bound, want...)
				}
			}
		}
	}
}

// P4.1: the greatest bound is filled in one go, one by one, and round its end; one more does not go.
func TestPutMost(t *testing.T) {
	for _, first := range []int{0, 1, 100, api.MaxQueue - 1} {
		r := turned(t, api.MaxQueue, first)
		if e := r.Put(from(0, api.MaxQueue+1)...); e != api.ErrFull {
			t.Error(e)
		}
		wantRing(t, "refused", r, api.MaxQueue)
		put(t, r, from(0, api.MaxQueue)...)
		wantRing(t, "in one go", r, api.MaxQueue, from(0, api.MaxQueue)...)
		r.Clear()
		for i := range api.MaxQueue {
			put(t, r, i)
		}
		if e := r.Put(0); e != api.ErrFull {
			t.Error(e)
		}
		wantRing(t, "one by one", r, api.MaxQueue, from(0, api.MaxQueue)...)
	}
	if e := fresh[byte](t, 256).Put(make([]byte, 1<<20)...); e != api.ErrFull {
		t.Error("a long list", e)
	}
}

// P4.1: nothing goes in anywhere, but not into a queue that is not there.
func TestPutNothing(t *testing.T) {
	for in := range 4 {
		r := turned(t, 3, 2, from(1, in)...)
		for _, l := range [][]int{nil, {}} {
			if e := r.Put(l...); e != api.OK {
				t.Error(in, e)
			}
		}
		wantRing(t, "nothing", r, 3, from(1, in)...)
	}
}

// P4.1: one by one, till none is left; what is refused changes nothing.
func TestTake(t *testing.T) {
	for _, bound := range []int{1, 2, 4} {
		for first := range bound {
			r := turned(t, bound, first, from(5, bound)...)
			for i := range bound {
				if x, e := r.Take(); x != 5+i || e != api.OK {
					t.Error(bound, first, x, e)
				}
				wantRing(t, "taken", r, bound, from(6+i, bound-i-1)...)
			}
			for range 3 {
				if x, e := r.Take(); x != 0 || e != api.ErrRange {
					t.Error(bound, first, x, e)
				}
			}
			put(t, r, 9)
			wantRing(t, "put again", r, bound, 9)
		}
	}
}

// P4.1: beside an error there is a zero thing, of whatever type.
func TestTakeNone(t *testing.T) {
	type pair struct {
		a int
		b []byte
	}
	r := fresh[pair](t, 1)
	put(t, r, pair{1, []byte("x")})
	if x, e := r.Take(); x.a != 1 || string(x.b) != "x" || e != api.OK {
		t.Error(x, e)
	}
	if x, e := r.Take(); x.a != 0 || x.b != nil || e != api.ErrRange {
		t.Error(x, e)
	}
	p := fresh[*int](t, 1)
	put(t, p, new(int))
	p.Take()
	if x, e := p.Take(); x != nil || e != api.ErrRange {
		t.Error(x, e)
	}
}

// P4.1: things of types that cannot be compared, that are large, and that are of no size.
func TestTypes(t *testing.T) {
	f := fresh[func() int](t, 2)
	put(t, f, func() int { return 1 }, nil)
	if x, e := f.Take(); e != api.OK || x() != 1 {
		t.Error("function", e)
	}
	if x, e := f.Take(); e != api.OK || x != nil {
		t.Error("no function", e)
	}
	b := fresh[[1 << 16]byte](t, 1)
	put(t, b, [1 << 16]byte{1<<16 - 1: 7})
	if x, e := b.Take(); e != api.OK || x[1<<16-1] != 7 {
		t.Error("array", e)
	}
	s := fresh[struct{}](t, 2)
	put(t, s, struct{}{}, struct{}{})
	if e := s.Put(struct{}{}); e != api.ErrFull || s.Len() != 2 || len(s.Clear()) != 2 || s.Len() != 0 {
		t.Error("no size", e)
	}
	wantRing(t, "no size", s, 2)
	m := fresh[map[string]int](t, 1)
	put(t, m, map[string]int{"a": 3})
	if x, e := m.Peek(0); e != api.OK || x["a"] != 3 {
		t.Error("map", e)
	}
	a := fresh[any](t, 3)
	put[any](t, a, 1, nil, "x")
	wantRing[any](t, "any", a, 3, 1, nil, "x")
}
