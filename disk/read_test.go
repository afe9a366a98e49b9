package disk_test

import (
	"fmt"
	"iter"
	"math"
	"slices"
	"testing"

	"millrace/api"
)

// P7.5: each place and each n of a file; bytes that last and those that do not alike.
func TestRead(t *testing.T) {
	d := written(t)
	for at := range 6 {
		for _, n := range []int{0, 1, 2, 3, 4, 5, 6, 1 << 32, math.MaxInt - 1, math.MaxInt} {
			want := "xyzuv"[at:]
			if n < len(want) {
				want = want[:n]
			}
			if b, e := d.Read("a", at, n); string(b) != want || e != api.OK {
				t.Errorf("Read(%d, %d): %q %v, want %q", at, n, b, e, want)
			}
		}
	}
	oks(t, d.Create("b"))
	if b, e := d.Read("b", 0, 1); len(b) != 0 || e != api.OK {
		t.Error(b, e)
	}
	wantSteps(t, "no steps", d, 5, 0)
}

// P7.5: a place below 0, or past the end, n below 0.
func TestReadRange(t *testing.T) {
	d := written(t)
	oks(t, d.Create("b"))
	for _, x := range []struct {
		name  string
		at, n int
	}{
		{"a", -1, 1}, {"a", -1, 0}, {"a", math.MinInt, 1}, {"a", 6, 0}, {"a", 6, 1}, {"a", 9, 1}, {"a", math.MaxInt, math.MaxInt}, {"a", 1 << 32, 1},
		{"a", 0, -1}, {"a", 5, -1}, {"a", 3, math.MinInt}, {"a", -1, -1}, {"a", 6, -1}, {"b", 1, 0}, {"b", -1, 1}, {"b", 0, -1},
	} {
		if b, e := d.Read(x.name, x.at, x.n); b != nil || e != api.ErrRange {
			t.Errorf("%v: %q %v", x, b, e)
		}
	}
}

// P7.5: an answer is new memory, its spare room too.
func TestReadNewMemory(t *testing.T) {
	d := written(t)
	one, _ := d.Read("a", 1, 2)
	two, _ := d.Read("a", 0, 9)
	none, _ := d.Read("a", 2, 0)
	for _, b := range [][]byte{one, two, none} {
		clear(b[:cap(b)])
	}
	wantFiles(t, "as it was", d, state{"a", "xyzuv", 3, true, false})
	three, _ := d.Read("a", 0, 9)
	oks(t, d.Cut("a", 0), d.Append("a", []byte("12345")))
	if string(three) != "xyzuv" {
		t.Errorf("%q", three)
	}
}

// P7.5: names by their bytes, not by how long they are.
func TestNamesRise(t *testing.T) {
	d := fresh(t)
	l := []string{"z", "a", "aa", "a.", "a-", "0", "9", "10", ".", "-", "zz", "b-0a", "b-0", "b-10"}
	for _, name := range l {
		oks(t, d.Create(name))
	}
	names := []string{"-", ".", "0", "10", "9", "a", "a-", "a.", "aa", "b-0", "b-0a", "b-10", "z", "zz"}
	if got := d.Names(); !slices.Equal(got, names) {
		t.Error(got)
	}
	var all []string
	for f := range d.All() {
		all = append(all, f.Name)
	}
	if !slices.Equal(all, names) {
		t.Error(all)
	}
	got := d.Names()
	clear(got[:cap(got)])
	if got := d.Names(); !slices.Equal(got, names) {
		t.Error("its answer is kept", got)
	}
}

// P7.5: as they are when All is called, whatever the disk does then.
func TestAllAsCalled(t *testing.T) {
	d := removed(t)
	oks(t, d.Create("b"), d.Append("b", []byte("qq")))
	was := []api.File{{Name: "a", Size: 3, Lasts: 3, NameLasts: true}, {Name: "b", Size: 2, There: true}}
	all := d.All()
	oks(t, d.Create("c"), d.Sync("b"), d.Append("b", []byte("r")), d.SyncDir(), d.Remove("b"))
	for range 2 {
		if got := slices.Collect(all); !slices.Equal(got, was) {
			t.Error(got)
		}
	}
	wantFiles(t, "now", d, state{"b", "qq", 2, false, true}, state{"c", "", 0, true, true})
	n := 0
	for f := range d.All() { // the disk changes while one goes over it
		oks(t, d.Create(fmt.Sprint("n", n)), d.Append("c", []byte("x")))
		n++
		if f.Name == "c" && f.Size != 0 {
			t.Error(f)
		}
	}
	if n != 2 {
		t.Error(n)
	}
}

// P7.5: left at each file, then not asked any more; gone over again from the first one on.
func TestAllLeft(t *testing.T) {
	d := fresh(t)
	oks(t, d.Create("c"), d.Create("a"), d.Create("b"))
	all := d.All()
	for stop := range 3 {
		var got []string
		all(func(f api.File) bool {
			got = append(got, f.Name)
			return len(got) <= stop
		})
		if !slices.Equal(got, []string{"a", "b", "c"}[:stop+1]) {
			t.Error(stop, got)
		}
	}
	var pairs string
	for f := range all {
		for g := range all {
			pairs += f.Name + g.Name + " "
		}
	}
	if pairs != "aa ab ac ba bb bc ca cb cc " {
		t.Error(pairs)
	}
	one, stopOne := iter.Pull(all)
	two, stopTwo := iter.Pull(all)
	defer stopOne()
	defer stopTwo()
	one()
	f, _ := one()
	g, _ := two()
	if f.Name != "b" || g.Name != "a" {
		t.Error(f, g)
	}
}

// P7.5: each call that is not refused is a step, good or not; what tells is none.
func TestSteps(t *testing.T) {
	d := fresh(t, fail(0), api.Fate{}, full(0), api.Fate{}, fail(0))
	for i, do := range []func() api.Errno{
		func() api.Errno { return d.Create("a") }, func() api.Errno { return d.Create("a") },
		func() api.Errno { return d.Append("a", nil) }, func() api.Errno { return d.Append("a", []byte("xyz")) },
		func() api.Errno { return d.Sync("a") }, func() api.Errno { return d.Sync("a") },
		func() api.Errno { return d.SyncDir() }, func() api.Errno { return d.Cut("a", 3) }, func() api.Errno { return d.Remove("a") },
	} {
		do()
		d.Read("a", 0, 1)
		d.File("a")
		d.Names()
		d.All()
		d.Steps()
		d.Copy()
		d.Same(d)
		d.Crash(api.Stop{})
		d.Crash(api.Stop{Picks: []int{-1}})
		wantSteps(t, "one more", d, i+1, max(0, 4-i))
	}
}
