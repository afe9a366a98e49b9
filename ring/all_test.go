package ring_test

import (
	"iter"
	"slices"
	"testing"

	"millrace/api"
	"millrace/ring"
)

// things goes over all, and holds their places to be 0, 1, and so on.
func things(t *testing.T, all iter.Seq2[int, int]) []int {
	t.Helper()
	var out []int
	for i, x := range all {
		if i != len(out) {
			t.Errorf("place %d, want %d", i, len(out))
		}
		out = append(out, x)
	}
	return out
}

// P4.3: as put in less as taken out; full just at the bound.
func TestLenFull(t *testing.T) {
	for _, bound := range []int{1, 3, api.MaxQueue} {
		r := turned(t, bound, bound/2)
		for i := range bound {
			if r.Len() != i || r.Full() || r.Bound() != bound {
				t.Error(bound, i, r.Len(), r.Full())
			}
			put(t, r, i)
		}
		for i := bound; i > 0; i-- {
			if r.Len() != i || r.Full() != (i == bound) || r.Bound() != bound {
				t.Error(bound, i, r.Len(), r.Full())
			}
			r.Take()
		}
	}
}

// P4.3: left at each place, and gone over again from the first one on.
func TestAllLeft(t *testing.T) {
	r := turned(t, 5, 3, from(20, 5)...)
	all := r.All()
	for stop := range 5 {
		var got []int
		for i, x := range all {
			got = append(got, x)
			if i == stop {
				break
			}
		}
		if !slices.Equal(got, from(20, stop+1)) {
			t.Error(stop, got)
		}
		calls := 0
		all(func(i, _ int) bool {
			calls++
			return i != stop
		})
		if calls != stop+1 {
			t.Errorf("asked %d times, left at %d", calls, stop)
		}
	}
	for range 2 {
		if got := things(t, all); !slices.Equal(got, from(20, 5)) {
			t.Error(got)
		}
	}
	wantRing(t, "gone over", r, 5, from(20, 5)...)
}

// P4.3: All of an empty one is there, and stays empty.
func TestAllEmpty(t *testing.T) {
	r := turned(t, 2, 1)
	all := r.All()
	put(t, r, 1, 2)
	if got := things(t, all); len(got) != 0 {
		t.Error(got)
	}
}

// P4.3: as they are when the call is made, whatever comes ahead of going over them, meanwhile, or between.
func TestAllStays(t *testing.T) {
	changes := map[string]func(r *ring.Ring[int]){
		"Take":  func(r *ring.Ring[int]) { r.Take() },
		"Drop":  func(r *ring.Ring[int]) { r.Drop(2) },
		"Clear": func(r *ring.Ring[int]) { r.Clear() },
		"Put":   func(r *ring.Ring[int]) { r.Put(50) },
		"round": func(r *ring.Ring[int]) { r.Take(); r.Put(60) },
		"other": func(r *ring.Ring[int]) { r.Clear(); r.Put(70, 71, 72, 73) },
		"list":  func(r *ring.Ring[int]) { l := r.List(); clear(l) },
		"none":  func(r *ring.Ring[int]) {},
	}
	for name, change := range changes {
		for first := range 4 {
			r := turned(t, 4, first, 1, 2, 3)
			all := r.All()
			change(r)
			if got := things(t, all); !slices.Equal(got, []int{1, 2, 3}) {
				t.Error(name, "ahead", first, got)
			}
			r = turned(t, 4, first, 1, 2, 3)
			all = r.All()
			var got []int
			for _, x := range all {
				change(r)
				got = append(got, x)
			}
			if !slices.Equal(got, []int{1, 2, 3}) || !slices.Equal(things(t, all), got) {
				t.Error(name, "meanwhile", first, got)
			}
		}
	}
}

// P4.3: gone over within itself, and by two at a time.
func TestAllTwice(t *testing.T) {
	all := turned(t, 3, 2, 1, 2, 3).All()
	var got []int
	for _, x := range all {
		for _, y := range all {
			got = append(got, 10*x+y)
		}
	}
	if !slices.Equal(got, []int{11, 12, 13, 21, 22, 23, 31, 32, 33}) {
		t.Error(got)
	}
	one, stopOne := iter.Pull2(all)
	two, stopTwo := iter.Pull2(all)
	defer stopOne()
	defer stopTwo()
	one()
	for i := range 4 {
		j, x, ok := one()
		k, y, also := two()
		if ok != (i < 2) || ok && (j != i+1 || x != i+2) || also != (i < 3) || also && (k != i || y != i+1) {
			t.Error(i, j, x, ok, k, y, also)
		}
	}
}

// P4.3: it stands so, from whatever first place on.
func TestCopy(t *testing.T) {
	for _, bound := range []int{1, 2, 3, api.MaxQueue} {
		for _, first := range []int{0, bound / 2, bound - 1} {
			for _, in := range []int{0, 1, bound / 2, bound} {
				r := turned(t, bound, first, from(1, in)...)
				c := r.Copy()
				if c == nil || c == r {
					t.Fatal("no other one")
				}
				wantRing(t, "copy", c, bound, from(1, in)...)
				wantRing(t, "copy's copy", c.Copy(), bound, from(1, in)...)
				wantRing(t, "copied", r, bound, from(1, in)...)
			}
		}
	}
}

// P4.3: each goes on without the other one.
func TestCopyApart(t *testing.T) {
	for first := range 4 {
		r := turned(t, 4, first, 1, 2, 3)
		c := r.Copy()
		put(t, r, 4)
		wantRing(t, "the copy, behind a Put", c, 4, 1, 2, 3)
		put(t, c, 5)
		wantRing(t, "the first one, behind the copy's Put", r, 4, 1, 2, 3, 4)
		if l, e := r.Drop(3); !slices.Equal(l, []int{1, 2, 3}) || e != api.OK {
			t.Error(l, e)
		}
		wantRing(t, "the copy, behind a Drop", c, 4, 1, 2, 3, 5)
		d := c.Copy()
		if x, e := c.Take(); x != 1 || e != api.OK {
			t.Error(x, e)
		}
		put(t, c, 6)
		wantRing(t, "the copy, gone on", c, 4, 2, 3, 5, 6)
		wantRing(t, "the first one, gone on", r, 4, 4)
		c.Clear()
		wantRing(t, "the copy, cleared", c, 4)
		wantRing(t, "the copy's copy", d, 4, 1, 2, 3, 5)
		wantRing(t, "the first one, in the end", r, 4, 4)
	}
}

// wantNone asks all calls of a queue that is not there, and that each later answer is as the first one.
func wantNone(t *testing.T, what string, r *ring.Ring[int]) {
	t.Helper()
	for range 2 {
		for _, l := range [][]int{nil, {1}, from(0, 300)} {
			if e := r.Put(l...); e != api.ErrNil {
				t.Error(what, "Put", len(l), e)
			}
		}
		if x, e := r.Take(); x != 0 || e != api.ErrNil {
			t.Error(what, "Take", x, e)
		}
		for _, n := range []int{-1, 0, 1, 300} {
			if l, e := r.Drop(n); len(l) != 0 || e != api.ErrNil {
				t.Error(what, "Drop", n, l, e)
			}
			if x, e := r.Peek(n); x != 0 || e != api.ErrNil {
				t.Error(what, "Peek", n, x, e)
			}
		}
		if len(r.List()) != 0 || len(r.Clear()) != 0 || r.Len() != 0 || r.Bound() != 0 || r.Full() {
			t.Error(what, "is told to be there")
		}
		all := r.All()
		if all == nil {
			t.Fatal(what, "has no iterator")
		}
		if l := things(t, all); len(l) != 0 {
			t.Error(what, "All", l)
		}
		if c := r.Copy(); c != nil {
			t.Error(what, "Copy", c)
		}
	}
}

// P4.1, P4.2, P4.3: a nil one, one that New refused, a zero one.
func TestNone(t *testing.T) {
	wantNone(t, "nil", nil)
	for _, bound := range []int{0, api.MaxQueue + 1} {
		r, _ := ring.New[int](bound)
		wantNone(t, "refused", r)
	}
	wantNone(t, "zero", new(ring.Ring[int]))
	var zero ring.Ring[int]
	wantNone(t, "zero variable", &zero)
	var nothing *ring.Ring[struct{}]
	if nothing.Put(struct{}{}) != api.ErrNil || nothing.Full() || nothing.Copy() != nil {
		t.Error("nil, of things of no size")
	}
}
