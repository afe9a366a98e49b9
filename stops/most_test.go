package stops_test

import (
	"testing"

	"millrace/api"
	"millrace/stops"
)

// P8.3: the first way and the last one of each shape.
func TestLeastMost(t *testing.T) {
	for _, x := range shapes() {
		d := diskOf(t, x.files...)
		oks(t, d.Feed(api.Fate{Kind: api.FateFail}))
		was := d.Copy()
		for range 2 {
			least, e := stops.Least(d)
			oks(t, e)
			most, e := stops.Most(d)
			oks(t, e)
			if left(least) != x.ways[0].left || left(most) != x.ways[len(x.ways)-1].left {
				t.Errorf("%s: %q, %q", x.what, left(least), left(most))
			}
			steps, fates := least.Steps()
			more, left := most.Steps()
			if steps+fates+more+left != 0 {
				t.Errorf("%s: %d %d, %d %d", x.what, steps, fates, more, left)
			}
			changes(t, least)
			changes(t, most)
		}
		steps, fates := d.Steps()
		if wasSteps, _ := was.Steps(); steps != wasSteps || fates != 1 || !d.Same(was) {
			t.Errorf("%s: the disk has changed", x.what)
		}
	}
}

// P8.3: nil and zero disks.
func TestLeastMostOfNone(t *testing.T) {
	for what, d := range none() {
		least, e := stops.Least(d)
		most, o := stops.Most(d)
		if least != nil || most != nil || e != api.ErrNil || o != api.ErrNil {
			t.Error(what, least, e, most, o)
		}
	}
}

// P8.3: also where there are more ways than can be counted.
func TestLeastMostOfTooMany(t *testing.T) {
	for what, d := range tooMany(t) {
		least, e := stops.Least(d)
		oks(t, e)
		most, e := stops.Most(d)
		oks(t, e)
		for f := range d.All() {
			got, e := most.File(f.Name)
			if e != api.OK || got.Size != f.Size || got.Lasts != f.Size || !got.There || !got.NameLasts {
				t.Errorf("%s: most: %v %v", what, got, e)
			}
			got, e = least.File(f.Name)
			if f.NameLasts && (e != api.OK || got.Size != f.Lasts) || !f.NameLasts && e != api.ErrNone {
				t.Errorf("%s: least: %v %v", what, got, e)
			}
		}
	}
}
