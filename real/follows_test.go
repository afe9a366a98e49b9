package real_test

import (
	"bytes"
	"math"
	"testing"

	"millrace/api"
	"millrace/real"
)

// some is floats of all kinds, in no order, some of them more than once.
func some(seed int64) []float64 {
	l := append(anyFloats(60, seed), ladder()...)
	l = append(l, nans()...)
	return mixed(append(l, l[:20]...), seed)
}

// P3.6: the order is total: of each two just one is ahead, or they are like; and what is ahead of what is ahead is ahead.
func TestOrderTotal(t *testing.T) {
	l := some(6)
	for _, x := range l {
		for _, y := range l {
			there, back := real.Order(x, y), real.Order(y, x)
			if there != -back || there < -1 || there > 1 {
				t.Fatalf("%v, %v: %d and %d", x, y, there, back)
			}
			for _, z := range l {
				if there <= 0 && real.Order(y, z) <= 0 && real.Order(x, z) > min(0, max(there, real.Order(y, z))) {
					t.Fatalf("%v, %v, %v", x, y, z)
				}
			}
		}
		wantOrder(t, x, x, 0)
	}
}

// P3.6: a key leads back to a float that is like, and so does a text.
func TestThereAndBack(t *testing.T) {
	for _, x := range append(some(7), anyFloats(20000, 8)...) {
		y, e := real.Of(real.Key(x))
		wantErr(t, "Of", e, api.OK)
		z, f := real.Read(real.Text(x))
		wantErr(t, "Read", f, api.OK)
		if !real.Like(x, y) || !real.Like(x, z) {
			t.Errorf("%v: %v, %v", x, y, z)
		}
		wantFloat(t, "Of", y, x)
		wantFloat(t, "Read", z, x)
	}
}

// P3.6: keys rise with the order, and are the same just of floats that are like.
func TestKeysRise(t *testing.T) {
	l := some(9)
	for _, x := range l {
		for _, y := range l {
			k, m := real.Key(x), real.Key(y)
			if bytes.Compare(k[:], m[:]) != real.Order(x, y) {
				t.Fatalf("%v, %v: %x, %x", x, y, k, m)
			}
		}
	}
}

// P3.6: keys rise between floats with none between them, too.
func TestKeysOfNeighbours(t *testing.T) {
	for _, x := range append(ladder(), anyFloats(2000, 10)...) {
		next := math.Nextafter(x, math.Inf(1))
		if math.IsNaN(x) || next == x {
			continue
		}
		wantOrder(t, x, next, -1)
		wantOrder(t, next, x, 1)
		k, m := real.Key(x), real.Key(next)
		if bytes.Compare(k[:], m[:]) != -1 {
			t.Errorf("%v, %v: %x, %x", x, next, k, m)
		}
	}
}

// counts tells how many of each there are, by the chapter's own key.
func counts(l []float64) map[[8]byte]int {
	n := map[[8]byte]int{}
	for _, x := range l {
		n[keyOf(x)]++
	}
	return n
}

// P3.6: Sort leaves as many of each as there were, and none stands behind one that it is ahead of; Nth goes by it, and Least and Greatest are its ends.
func TestSortAndRanks(t *testing.T) {
	for seed := range int64(20) {
		l := some(seed)
		sorted, e := real.Sort(l...)
		wantErr(t, "Sort", e, api.OK)
		before, behind := counts(l), counts(sorted)
		if len(before) != len(behind) || len(l) != len(sorted) {
			t.Fatalf("%d floats, %d of them unlike, out of %d and %d", len(sorted), len(behind), len(l), len(before))
		}
		for k, n := range before {
			if behind[k] != n {
				t.Errorf("%x: %d, were %d", k, behind[k], n)
			}
		}
		for i, x := range sorted {
			if i > 0 && real.Order(sorted[i-1], x) > 0 {
				t.Errorf("%v stands ahead of %v", sorted[i-1], x)
			}
			wantNth(t, i, l, x, api.OK)
		}
		wantOutermost(t, l, sorted[0], sorted[len(sorted)-1], true)
	}
}
