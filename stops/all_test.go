package stops_test

import (
	"fmt"
	"slices"
	"testing"

	"millrace/api"
	"millrace/disk"
	"millrace/stops"
)

// P8.2: all ways of each shape, in their order, and what they leave; again and again.
func TestAllShapes(t *testing.T) {
	for _, x := range shapes() {
		d := diskOf(t, x.files...)
		oks(t, d.Feed(api.Fate{Kind: api.FateFull}))
		all, images := stops.All(d), stops.Images(d)
		for range 2 {
			wantWays(t, x.what, all, x.ways)
			wantImages(t, x.what, images, x.ways)
		}
	}
}

// P8.2: of no disk nothing is told, and the iterators are there.
func TestAllOfNone(t *testing.T) {
	for what, d := range none() {
		all, images := stops.All(d), stops.Images(d)
		if all == nil || images == nil {
			t.Fatal(what)
		}
		for range 2 {
			wantWays(t, what, all, nil)
			wantImages(t, what, images, nil)
		}
	}
}

// P8.2: they are left behind each way, are asked no more then, and begin anew.
func TestAllLeft(t *testing.T) {
	for _, x := range shapes() {
		d := diskOf(t, x.files...)
		all, images := stops.All(d), stops.Images(d)
		for leave := range x.ways {
			n, m := 0, 0
			all(func(s api.Stop) bool {
				n++
				return n <= leave
			})
			images(func(s api.Stop, o *disk.Disk) bool {
				m++
				return m <= leave
			})
			if n != leave+1 || m != leave+1 {
				t.Errorf("%s: left behind %d: %d, %d", x.what, leave+1, n, m)
			}
		}
		wantWays(t, x.what, all, x.ways)
		wantImages(t, x.what, images, x.ways)
	}
}

// P8.2: one goes over them while one goes over them.
func TestAllWithinAll(t *testing.T) {
	for _, x := range shapes() {
		d := diskOf(t, x.files...)
		all, images := stops.All(d), stops.Images(d)
		i := 0
		for s := range all {
			wantWays(t, x.what, all, x.ways)
			if !slices.Equal(s.Picks, x.ways[i].picks) {
				t.Errorf("%s: %v at %d", x.what, s, i)
			}
			i++
		}
		i = 0
		for s, o := range images {
			wantImages(t, x.what, images, x.ways)
			if !slices.Equal(s.Picks, x.ways[i].picks) || left(o) != x.ways[i].left {
				t.Errorf("%s: %v at %d", x.what, s, i)
			}
			i++
		}
	}
}

// changes does to a disk all that makes its ways others.
func changes(t *testing.T, d *disk.Disk) {
	t.Helper()
	for _, name := range d.Names() {
		size, e := d.File(name)
		oks(t, e, d.Cut(name, size.Size/2), d.Append(name, []byte("!!!")))
	}
	oks(t, d.Create("new"), d.Append("new", []byte("?")))
	for _, name := range d.Names() {
		oks(t, d.Sync(name), d.Append(name, []byte("~")))
	}
	oks(t, d.SyncDir())
	for _, name := range d.Names() {
		oks(t, d.Remove(name))
	}
}

// P8.2: as the disk is when they are called, though it changes ahead of going over them, or meanwhile.
func TestAllAsItWas(t *testing.T) {
	for _, x := range shapes() {
		d := diskOf(t, x.files...)
		all, images := stops.All(d), stops.Images(d)
		i := 0
		for s := range all {
			if i == 0 {
				changes(t, d)
			}
			if i >= len(x.ways) || !slices.Equal(s.Picks, x.ways[i].picks) {
				t.Errorf("%s: %v at %d", x.what, s, i)
			}
			i++
		}
		wantWays(t, x.what+", changed", all, x.ways)
		wantImages(t, x.what+", changed", images, x.ways)
		if n, e := stops.Count(d); e == api.OK && n == int64(len(x.ways)) && slices.Equal(slices.Collect(d.All()), slices.Collect(diskOf(t, x.files...).All())) {
			t.Errorf("%s: nothing has changed", x.what)
		}
	}
	d := example(t)
	images := stops.Images(d)
	i, ways := 0, shapes()[1].ways
	for s, o := range images {
		oks(t, d.Append("a", []byte("w")), d.Cut("a", i), d.Sync("a"))
		if !slices.Equal(s.Picks, ways[i].picks) || left(o) != ways[i].left {
			t.Errorf("meanwhile: %v, %q", s, left(o))
		}
		i++
	}
	wantImages(t, "changed", images, ways)
}

// P8.2: what is told is new memory each time: changed, it changes neither what is told later, nor the disk.
func TestAllMemory(t *testing.T) {
	for _, x := range shapes() {
		d := diskOf(t, x.files...)
		was := d.Copy()
		all, images := stops.All(d), stops.Images(d)
		for range 2 {
			i := 0
			for s := range all {
				if !slices.Equal(s.Picks, x.ways[i].picks) {
					t.Errorf("%s: %v at %d", x.what, s, i)
				}
				spoil(s)
				i++
			}
			i = 0
			for s, o := range images {
				if !slices.Equal(s.Picks, x.ways[i].picks) || left(o) != x.ways[i].left {
					t.Errorf("%s: %v, %q at %d", x.what, s, left(o), i)
				}
				spoil(s)
				changes(t, o)
				i++
			}
		}
		wantWays(t, x.what, all, x.ways)
		wantImages(t, x.what, images, x.ways)
		if !d.Same(was) {
			t.Errorf("%s: the disk has changed", x.what)
		}
		wasSteps, _ := was.Steps()
		if steps, fates := d.Steps(); steps != wasSteps || fates != 0 {
			t.Errorf("%s: %d steps, %d fates", x.what, steps, fates)
		}
	}
}

// spoil overwrites a stop's picks, and the room behind them.
func spoil(s api.Stop) {
	l := s.Picks[:cap(s.Picks)]
	for i := range l {
		l[i] = -9
	}
}

// P8.2: disks that were told stay as they were while others of them are changed.
func TestImagesApart(t *testing.T) {
	for _, x := range shapes() {
		d := diskOf(t, x.files...)
		var told []*disk.Disk
		var picked []api.Stop
		for range 2 {
			for s, o := range stops.Images(d) {
				told, picked = append(told, o), append(picked, s)
			}
		}
		for i, o := range told {
			for j, other := range told[i:] {
				if want := x.ways[(i+j)%len(x.ways)]; left(other) != want.left || !slices.Equal(picked[i+j].Picks, want.picks) {
					t.Errorf("%s: %d has changed with %d: %q", x.what, i+j, i-1, left(other))
				}
			}
			changes(t, o)
			spoil(picked[i])
		}
	}
}

// P8.2: nothing is listed ahead: of more ways than can be counted the first ones are told.
func TestAllOfTooMany(t *testing.T) {
	for what, d := range tooMany(t) {
		files := slices.Collect(d.All())
		picks, _ := taken(files, nil)
		i := 0
		for s := range stops.All(d) {
			if i == 0 && !slices.Equal(s.Picks, picks) {
				t.Error(what, s)
			}
			if plain, _ := taken(files, s.Picks); !slices.Equal(plain, s.Picks) {
				t.Error(what, s)
			}
			if i++; i == 100 {
				break
			}
		}
		j := 0
		for s, o := range stops.Images(d) {
			if x, e := d.Crash(s); e != api.OK || !o.Same(x) {
				t.Error(what, s)
			}
			if j++; j == 2 {
				break
			}
		}
		if i != 100 || j != 2 {
			t.Error(what, i, j)
		}
	}
}

// P8.2: many ways, each by its number.
func TestAllOfMany(t *testing.T) {
	d := names(t, 16)
	n := 0
	for s := range stops.All(d) {
		if want := fmt.Sprintf("%016b", n); fmt.Sprint(s.Picks) != fmt.Sprint(bits(want)) {
			t.Fatal(n, s)
		}
		n++
	}
	if n != 1<<16 {
		t.Error(n)
	}
}

// bits are the digits 0 and 1 of a text.
func bits(s string) []int {
	var l []int
	for _, c := range s {
		l = append(l, int(c-'0'))
	}
	return l
}
