package times_test

import (
	"testing"

	"millrace/api"
	"millrace/times"
)

// P12.6: a copy is the same, and each goes on apart.
func TestCopy(t *testing.T) {
	x := example(t)
	o := x.Copy()
	if o == x {
		t.Fatal("a copy is another one")
	}
	wantSame(t, "copy", x, o, true)
	wantErr(t, "Put", x.Put(records(10)...), api.OK)
	wantIndex(t, "Put to the one", o, 10, 15, rise(10, 5), rise(13, 9))
	wantErr(t, "Put", o.Put(records(20, 30)...), api.OK)
	wantIndex(t, "Put to the copy", x, 10, 16, rise(10, 5), rise(13, 9), rise(15, 10))
	wantIndex(t, "Put to both", o, 10, 17, rise(10, 5), rise(13, 9), rise(15, 20), rise(16, 30))
	o = x.Copy()
	wantErr(t, "Cut", x.Cut(11), api.OK)
	wantErr(t, "Put", x.Put(records(70, 80)...), api.OK)
	wantIndex(t, "Cut of the one", o, 10, 16, rise(10, 5), rise(13, 9), rise(15, 10))
	wantErr(t, "Cut", o.Cut(10), api.OK)
	wantErr(t, "Join", o.Join(indexOf(t, 10, 1, 2)), api.OK)
	wantIndex(t, "Cut of the copy", x, 10, 13, rise(10, 5), rise(11, 70), rise(12, 80))
	wantIndex(t, "Cut of both", o, 10, 12, rise(10, 1), rise(11, 2))
}

// P12.6: copies of one index, and of copies, write over none of the others.
func TestCopyMany(t *testing.T) {
	x := indexOf(t, 0, 1)
	for n := int64(2); n < 40; n++ {
		a, b := x.Copy(), x.Copy()
		c := a.Copy()
		wantErr(t, "Put", x.Put(records(n)...), api.OK)
		wantErr(t, "Put", a.Put(records(100*n)...), api.OK)
		wantErr(t, "Put", b.Put(records(200*n)...), api.OK)
		wantErr(t, "Put", c.Put(records(300*n)...), api.OK)
		for i, y := range []*times.Index{x, a, b, c} {
			wantUntil(t, "last", y, n-1, []int64{n, 100 * n, 200 * n, 300 * n}[i], true)
			wantUntil(t, "ahead", y, n-2, n-1, true)
		}
	}
}

// P12.6: of an index without records, of nil and of a zero one.
func TestCopyNone(t *testing.T) {
	empty := indexOf(t, 4)
	c := empty.Copy()
	if c == nil || c == empty {
		t.Fatal("a copy of an index without records is another one")
	}
	wantErr(t, "Put", empty.Put(records(1)...), api.OK)
	wantIndex(t, "of no records", c, 4, 4)
	for what, x := range nones() {
		if o := x.Copy(); o != nil {
			t.Errorf("%s: Copy: %v", what, o)
		}
	}
}

// P12.6: Same is of base, end and rises, however the index came to be.
func TestSame(t *testing.T) {
	x := example(t)
	wantSame(t, "itself", x, x, true)
	wantSame(t, "once more", x, example(t), true)
	wantSame(t, "other records, the same rises", x, indexOf(t, 10, 5, 0, 0, 9, 9), true)
	wantSame(t, "another base", x, indexOf(t, 11, 5, 3, 5, 9, 1), false)
	wantSame(t, "another end", x, indexOf(t, 10, 5, 3, 5, 9), false)
	wantSame(t, "another end", x, indexOf(t, 10, 5, 3, 5, 9, 1, 0), false)
	wantSame(t, "another time", x, indexOf(t, 10, 5, 3, 5, 10, 1), false)
	wantSame(t, "another offset", x, indexOf(t, 10, 5, 3, 9, 5, 1), false)
	wantSame(t, "a rise more", x, indexOf(t, 10, 5, 3, 5, 9, 10), false)
	wantSame(t, "a rise fewer", x, indexOf(t, 10, 5, 3, 5, 5, 1), false)
	wantSame(t, "no records, another base", indexOf(t, 1), indexOf(t, 2), false)
	wantSame(t, "no records", indexOf(t, 1), indexOf(t, 1), true)
	gone := indexOf(t, 1, 5, 6)
	gone.Cut(1)
	wantSame(t, "no records any more", gone, indexOf(t, 1), true)
}

// P12.6: those that are not there are the same, and none that is there is as they are.
func TestSameNone(t *testing.T) {
	wantSame(t, "nil", nil, nil, true)
	wantSame(t, "zero", &times.Index{}, &times.Index{}, true)
	wantSame(t, "nil and zero", nil, &times.Index{}, true)
	for what, x := range nones() {
		wantSame(t, what, x, indexOf(t, 0), false)
		wantSame(t, what, x, example(t), false)
	}
}
