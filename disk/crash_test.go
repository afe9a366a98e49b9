package disk_test

import (
	"fmt"
	"math"
	"slices"
	"testing"

	"millrace/api"
	"millrace/disk"
)

// P7.1 to P7.6: the chapter's examples.
func TestExamples(t *testing.T) {
	d := written(t)
	wantFiles(t, "d", d, state{"a", "xyzuv", 3, true, false})
	wantFiles(t, "0", crashed(t, d, 0))
	wantFiles(t, "1 0", crashed(t, d, 1, 0), state{"a", "xyz", 3, true, true})
	wantFiles(t, "1 1", crashed(t, d, 1, 1), state{"a", "xyzu", 4, true, true})
	want(t, "Read", readError(d, "a", 9, 1), api.ErrRange)
	want(t, "Cut", d.Cut("a", -1), api.ErrRange)
	want(t, "Create", d.Create("A"), api.ErrArg)
	want(t, "Sync", d.Sync("zz"), api.ErrNone)
	oks(t, d.SyncDir(), d.Remove("a"))
	want(t, "Create", d.Create("a"), api.ErrThere)
	wantFiles(t, "0", crashed(t, d, 0))
	wantFiles(t, "1", crashed(t, d, 1), state{"a", "xyz", 3, true, true})
	e := fresh(t, fail(2))
	want(t, "Create", e.Create("b"), api.ErrDisk)
	oks(t, e.Create("b"), e.Feed(full(1)))
	want(t, "Append", e.Append("b", []byte("xyz")), api.ErrFull)
	wantFiles(t, "e", e, state{"b", "x", 0, true, false})
}

// many is a disk with a file of each kind, and those files.
func many(t *testing.T) (*disk.Disk, []state) {
	t.Helper()
	d := fresh(t)
	for _, name := range []string{"a", "c", "e", "g"} {
		oks(t, d.Create(name), d.Append(name, []byte(name+"12")), d.Sync(name))
	}
	oks(t, d.SyncDir(), d.Append("c", []byte("34")), d.Append("e", []byte("5")), d.Remove("e"), d.Cut("g", 0), d.Remove("g"))
	for _, name := range []string{"b", "d", "f"} {
		oks(t, d.Create(name), d.Append(name, []byte(name)))
	}
	oks(t, d.Sync("b"), d.Sync("d"), d.Append("d", []byte("!?")), d.Create("h"))
	files := []state{
		{"a", "a12", 3, true, true}, {"b", "b", 1, true, false}, {"c", "c1234", 3, true, true}, {"d", "d!?", 1, true, false},
		{"e", "e12", 3, false, true}, {"f", "f", 0, true, false}, {"g", "", 0, false, true}, {"h", "", 0, true, false},
	}
	wantFiles(t, "many", d, files...)
	return d, files
}

// P7.6: the picks go name by name: of each first whether it is there, then how many of its bytes stay.
func TestCrashPicks(t *testing.T) {
	d, _ := many(t)
	a := state{"a", "a12", 3, true, true}
	for _, x := range []struct {
		picks []int
		want  []state
	}{
		{nil, []state{a, {"c", "c12", 3, true, true}}},
		{[]int{1}, []state{a, {"b", "b", 1, true, true}, {"c", "c12", 3, true, true}}},
		{[]int{0, 1}, []state{a, {"c", "c123", 4, true, true}}},
		{[]int{0, 2, 1, 1}, []state{a, {"c", "c1234", 5, true, true}, {"d", "d!", 2, true, true}}},
		{[]int{0, 2, 0, 1}, []state{a, {"c", "c1234", 5, true, true}, {"e", "e12", 3, true, true}}},
		{[]int{0, 0, 0, 0, 1, 1}, []state{a, {"c", "c12", 3, true, true}, {"f", "f", 1, true, true}}},
		{[]int{0, 0, 0, 0, 1, 0}, []state{a, {"c", "c12", 3, true, true}, {"f", "", 0, true, true}}},
		{[]int{0, 0, 0, 0, 0, 1}, []state{a, {"c", "c12", 3, true, true}, {"g", "", 0, true, true}}},
		{[]int{0, 0, 0, 0, 0, 0, 1}, []state{a, {"c", "c12", 3, true, true}, {"h", "", 0, true, true}}},
		{[]int{1, 2, 1, 2, 1, 1, 1, 1, 1}, []state{a, {"b", "b", 1, true, true}, {"c", "c1234", 5, true, true}, {"d", "d!?", 3, true, true}, {"e", "e12", 3, true, true}, {"f", "f", 1, true, true}, {"g", "", 0, true, true}, {"h", "", 0, true, true}}},
	} {
		wantFiles(t, fmt.Sprint(x.picks), crashed(t, d, x.picks...), x.want...)
	}
}

// P7.6: each pick is taken modulo how many ways there are, however great; too few count as 0, too many are not asked.
func TestCrashAllWays(t *testing.T) {
	d, files := many(t)
	all := ways(files)
	if len(all) != 2*3*4*2*3*2*2 {
		t.Fatal(len(all))
	}
	for i, w := range all {
		what := fmt.Sprint(w.picks)
		wantFiles(t, what, crashed(t, d, w.picks...), w.left...)
		if i%5 > 0 {
			continue
		}
		great := slices.Clone(w.picks)
		for j := range great {
			great[j] += 6 * (i + j) // 2, 3 and so 6 are what picks are taken modulo here
		}
		wantFiles(t, what+" made great", crashed(t, d, great...), w.left...)
		wantFiles(t, what+" and more", crashed(t, d, append(great, 1, 1, 1, math.MaxInt)...), w.left...)
		few := slices.Clone(w.picks)
		for len(few) > 0 && few[len(few)-1] == 0 {
			few = few[:len(few)-1]
		}
		wantFiles(t, what+" without noughts", crashed(t, d, few...), w.left...)
	}
	wantFiles(t, "as it was", d, files...)
}

// P7.6: the greatest picks, over how many bytes there are and one more.
func TestCrashModulo(t *testing.T) {
	d := fresh(t)
	oks(t, d.Create("a"), d.SyncDir(), d.Append("a", []byte("0123456")))
	for pick := range 30 {
		n := pick % 8
		wantFiles(t, fmt.Sprint(pick), crashed(t, d, pick), state{"a", "0123456"[:n], n, true, true})
	}
	wantFiles(t, "greatest", crashed(t, d, math.MaxInt), state{"a", "0123456", 7, true, true})
	wantFiles(t, "one less", crashed(t, d, math.MaxInt-1), state{"a", "012345", 6, true, true})
}

// P7.6: a pick below 0, also where none is taken.
func TestCrashRefused(t *testing.T) {
	d, files := many(t)
	for _, x := range []*disk.Disk{d, fresh(t)} {
		for _, picks := range [][]int{{-1}, {math.MinInt}, {0, -1}, {-1, 0}, {1, 1, -2, 1}, append(make([]int, 50), -1), {-2}, {1, 2, 1, 2, 1, 1, 1, 1, 1, -1}} {
			if o, e := x.Crash(api.Stop{Picks: picks}); o != nil || e != api.ErrArg {
				t.Error(picks, e)
			}
		}
	}
	wantFiles(t, "as it was", d, files...)
}

// P7.6: what it leaves is without fates and steps, and goes on apart; the old one is as it was.
func TestCrashApart(t *testing.T) {
	d, files := many(t)
	oks(t, d.Feed(fail(0), full(1)))
	steps, _ := d.Steps()
	picks := []int{1, 2, 1, 2, 1, 1, 1, 1, 1, 7}
	room := append(picks[:9:9], 7)
	o, twin := crashed(t, d, room[:9]...), crashed(t, d, room[:9]...)
	if !slices.Equal(room, picks) {
		t.Error(room)
	}
	was := slices.Clone(files)
	for i := range was {
		was[i] = state{was[i].name, was[i].bytes, len(was[i].bytes), true, true}
	}
	wantSteps(t, "left", o, 0, 0)
	wantFiles(t, "left", o, was...)
	oks(t, o.Append("c", []byte("!!")), o.Cut("a", 1), o.Append("a", []byte("??")), o.Remove("b"), o.SyncDir(), o.Create("b"))
	for _, name := range o.Names() {
		oks(t, o.Cut(name, 0), o.Append(name, []byte("00000000")))
	}
	wantFiles(t, "as it was", d, files...)
	wantSteps(t, "as it was", d, steps, 2)
	want(t, "its fate", d.Append("c", []byte("5")), api.ErrDisk)
	oks(t, twin.Append("c", []byte("6")))
	want(t, "its fate", d.Append("c", []byte("5")), api.ErrFull)
	wantFile(t, "goes on", d, state{"c", "c12345", 3, true, true})
	wantFile(t, "goes on", twin, state{"c", "c12346", 5, true, true})
}

// P7.6: a removed file comes back, or does not, ahead of SyncDir; behind it none does.
func TestCrashRemoved(t *testing.T) {
	d := removed(t)
	oks(t, d.Feed(fail(0)))
	want(t, "not good", d.SyncDir(), api.ErrDisk)
	wantFiles(t, "at 0", crashed(t, d, 0, 1))
	wantFiles(t, "at 2", crashed(t, d, 2))
	wantFiles(t, "at 1", crashed(t, d, 1, 1), state{"a", "xyz", 3, true, true})
	wantFiles(t, "at 3", crashed(t, d, 3), state{"a", "xyz", 3, true, true})
	oks(t, d.SyncDir())
	wantFiles(t, "behind SyncDir", crashed(t, d, 1))
	d = written(t)
	oks(t, d.Remove("a"))
	wantFiles(t, "its name did not last", crashed(t, d, 1, 1))
	o := crashed(t, removed(t), 1)
	oks(t, o.Append("a", []byte("!")))
	wantFiles(t, "goes on", o, state{"a", "xyz!", 3, true, true})
}

// P7.6: a file that was removed and made anew, the directory synced between: the old bytes are gone.
func TestCrashMadeAnew(t *testing.T) {
	d := removed(t)
	oks(t, d.SyncDir(), d.Create("a"), d.Append("a", []byte("n")))
	wantFiles(t, "none", crashed(t, d))
	wantFiles(t, "its name", crashed(t, d, 1), state{"a", "", 0, true, true})
	wantFiles(t, "all", crashed(t, d, 1, 1), state{"a", "n", 1, true, true})
}

// P7.6: one that stands there, with its fates and steps, and goes on apart.
func TestCopy(t *testing.T) {
	d, files := many(t)
	oks(t, d.Feed(fail(0), full(1), fail(2)))
	want(t, "a fate", d.SyncDir(), api.ErrDisk)
	steps, _ := d.Steps()
	o := d.Copy()
	wantFiles(t, "copy", o, files...)
	wantSteps(t, "copy", o, steps, 2)
	want(t, "the copy's fate", o.Append("a", []byte("xyz")), api.ErrFull)
	wantFile(t, "copy", o, state{"a", "a12x", 3, true, true})
	oks(t, o.Feed(fail(0)))
	wantSteps(t, "copy", o, steps+1, 2)
	wantFiles(t, "as it was", d, files...)
	wantSteps(t, "as it was", d, steps, 2)
	oks(t, d.Feed(full(9)))
	want(t, "its fate", d.Sync("c"), api.ErrFull)
	wantFile(t, "a step of it", d, state{"c", "c1234", 4, true, true})
	wantFile(t, "copy", o, state{"c", "c1234", 3, true, true})
	for _, e := range []api.Errno{api.ErrDisk, api.ErrDisk, api.OK} {
		want(t, "the copy's fates", o.SyncDir(), e)
	}
	for _, e := range []api.Errno{api.ErrDisk, api.ErrFull, api.OK} {
		want(t, "its fates", d.Remove("a"), e)
	}
	if fresh(t).Copy() == nil || o.Copy() == o {
		t.Error("Copy")
	}
}

// P7.6: both are fed apart, however much room is behind the fates that both have.
func TestCopyFates(t *testing.T) {
	for n := range 20 {
		d := fresh(t)
		for range n {
			oks(t, d.Feed(api.Fate{}))
		}
		o := d.Copy()
		oks(t, d.Feed(fail(0)), o.Feed(full(0)), d.Feed(full(0)))
		for range n {
			oks(t, d.SyncDir(), o.SyncDir())
		}
		want(t, "disk", d.SyncDir(), api.ErrDisk)
		want(t, "copy", o.SyncDir(), api.ErrFull)
		want(t, "disk", d.SyncDir(), api.ErrFull)
		want(t, "copy", o.SyncDir(), api.OK)
	}
}

// P7.6: each thing by which two disks differ; fates and steps are none.
func TestSame(t *testing.T) {
	base := func() *disk.Disk {
		d := written(t)
		oks(t, d.SyncDir(), d.Create("b"), d.Create("c"), d.SyncDir(), d.Remove("c"))
		return d
	}
	d := base()
	for what, change := range map[string]func(d *disk.Disk) api.Errno{
		"a file more":           func(d *disk.Disk) api.Errno { return d.Create("d") },
		"one less":              func(d *disk.Disk) api.Errno { return d.Remove("b") },
		"a byte more":           func(d *disk.Disk) api.Errno { return d.Append("a", []byte{0}) },
		"one less of it":        func(d *disk.Disk) api.Errno { return d.Cut("a", 4) },
		"more bytes last":       func(d *disk.Disk) api.Errno { return d.Sync("a") },
		"none may come back":    func(d *disk.Disk) api.Errno { return d.SyncDir() },
		"one more may be gone":  func(d *disk.Disk) api.Errno { return d.Remove("a") },
		"one may have no bytes": func(d *disk.Disk) api.Errno { return d.Append("b", []byte("q")) },
	} {
		o := base()
		if !d.Same(o) || !o.Same(d) {
			t.Fatal("made alike")
		}
		oks(t, change(o))
		if d.Same(o) || o.Same(d) || !o.Same(o.Copy()) || !o.Same(o) {
			t.Error(what)
		}
	}
	o := d.Copy()
	oks(t, o.Feed(fail(0), full(0)))
	want(t, "a step", o.SyncDir(), api.ErrDisk)
	want(t, "another", o.Append("a", nil), api.ErrFull)
	if !d.Same(o) || !o.Same(d) {
		t.Error("fates and steps are asked")
	}
}

// P7.6: bytes, names and what lasts of names are held against each other, too, where all numbers are alike.
func TestSameDiffers(t *testing.T) {
	of := func(name, b string, dir bool) *disk.Disk {
		d := fresh(t)
		oks(t, d.Create(name), d.Append(name, []byte(b)), d.Sync(name))
		if dir {
			oks(t, d.SyncDir())
		}
		return d
	}
	d := of("a", "xyz", false)
	if !d.Same(of("a", "xyz", false)) {
		t.Error("made alike")
	}
	for what, o := range map[string]*disk.Disk{"bytes": of("a", "xyw", false), "first byte": of("a", "wyz", false), "name": of("b", "xyz", false), "name lasts": of("a", "xyz", true), "none": fresh(t)} {
		if d.Same(o) || o.Same(d) {
			t.Error(what)
		}
	}
	there, gone := of("a", "xyz", true), of("a", "xyz", true)
	oks(t, gone.Remove("a"))
	if there.Same(gone) || gone.Same(there) || gone.Same(fresh(t)) || fresh(t).Same(gone) {
		t.Error("one that may come back")
	}
	oks(t, gone.SyncDir())
	if !gone.Same(fresh(t)) || !fresh(t).Same(gone) {
		t.Error("both without files")
	}
	if !crashed(t, d, 1).Same(there) || d.Same(nil) {
		t.Error("crashed")
	}
}
