package disk_test

import (
	"fmt"
	"testing"

	"millrace/api"
	"millrace/disk"
)

// P7.2: it is there, without bytes, and its name does not last.
func TestCreate(t *testing.T) {
	d := fresh(t)
	oks(t, d.Create("b"), d.Create("a"), d.Create("a-"), d.Create("0"))
	wantFiles(t, "made", d, state{name: "0", there: true}, state{name: "a", there: true}, state{name: "a-", there: true}, state{name: "b", there: true})
	wantSteps(t, "made", d, 4, 0)
}

// P7.2 to P7.5: which texts are names, at each call that takes one.
func TestNames(t *testing.T) {
	for _, name := range someNames() {
		d := fresh(t)
		oks(t, d.Create(name), d.Append(name, []byte("xyz")), d.Sync(name), d.Cut(name, 2), d.SyncDir())
		wantFiles(t, name, d, state{name, "xy", 2, true, true})
		oks(t, d.Remove(name))
		wantFiles(t, name, d, state{name, "xy", 2, false, true})
	}
	d := written(t)
	calls := named()
	for _, name := range noNames() {
		for call, do := range calls {
			want(t, fmt.Sprintf("%s of %.40q", call, name), do(d, name), api.ErrArg)
		}
	}
	wantFiles(t, "refused", d, state{"a", "xyzuv", 3, true, false})
	wantSteps(t, "refused", d, 4, 0)
}

// P7.2: it is there, or may come back.
func TestCreateThere(t *testing.T) {
	d := written(t)
	want(t, "there", d.Create("a"), api.ErrThere)
	oks(t, d.SyncDir())
	want(t, "there, its name lasts", d.Create("a"), api.ErrThere)
	oks(t, d.Remove("a"))
	want(t, "may come back", d.Create("a"), api.ErrThere)
	wantFiles(t, "may come back", d, state{"a", "xyz", 3, false, true})
	oks(t, d.SyncDir())
	wantFiles(t, "gone", d)
	oks(t, d.Create("a"))
	wantFiles(t, "another", d, state{name: "a", there: true})
	wantSteps(t, "all", d, 8, 0)
}

// P7.2: not good: nothing has changed but that a fate was taken, whatever its Keep.
func TestCreateFates(t *testing.T) {
	d := fresh(t, fail(0), full(1), fail(-1), full(100))
	for _, e := range []api.Errno{api.ErrDisk, api.ErrFull, api.ErrDisk, api.ErrFull} {
		want(t, "Create", d.Create("b"), e)
		wantFiles(t, "not good", d)
	}
	wantSteps(t, "not good", d, 4, 0)
	oks(t, d.Create("b"))
	wantFiles(t, "good", d, state{name: "b", there: true})
}

// crowd makes files until the disk has so many of them.
func crowd(t *testing.T, d *disk.Disk, until int) {
	t.Helper()
	for i := len(d.Names()); i < until; i++ {
		oks(t, d.Create(fmt.Sprintf("f%d", i)))
	}
}

// P7.2: MaxFiles names go, one more does not; those that may come back are among them.
func TestMaxFiles(t *testing.T) {
	d := fresh(t)
	crowd(t, d, api.MaxFiles)
	if n := len(d.Names()); n != api.MaxFiles {
		t.Fatal(n)
	}
	oks(t, d.Feed(fail(0)))
	want(t, "one more", d.Create("g"), api.ErrFull)
	want(t, "one that is there", d.Create("f7"), api.ErrThere)
	want(t, "no name", d.Create("G"), api.ErrArg)
	wantSteps(t, "refused", d, api.MaxFiles, 1)
	want(t, "the fate is left", d.SyncDir(), api.ErrDisk)
	oks(t, d.Remove("f7"), d.Create("g"))
	want(t, "full again", d.Create("h"), api.ErrFull)
	oks(t, d.SyncDir(), d.Remove("f8"))
	want(t, "may come back, another", d.Create("h"), api.ErrFull)
	want(t, "may come back, itself", d.Create("f8"), api.ErrThere)
	if n := len(d.Names()); n != api.MaxFiles-1 {
		t.Error(n)
	}
	oks(t, d.SyncDir(), d.Create("h"))
	want(t, "full once more", d.Create("f8"), api.ErrFull)
}

// P7.2: it is not there; if its name lasts, it may come back, with the bytes that lasted.
func TestRemove(t *testing.T) {
	d := written(t)
	oks(t, d.Create("b"), d.Remove("a"))
	wantFiles(t, "its name does not last", d, state{name: "b", there: true})
	oks(t, d.Create("a"))
	wantFiles(t, "made anew", d, state{name: "a", there: true}, state{name: "b", there: true})

	d = written(t)
	oks(t, d.SyncDir(), d.Create("b"), d.Remove("a"))
	wantFiles(t, "its name lasts", d, state{"a", "xyz", 3, false, true}, state{name: "b", there: true})

	d = fresh(t)
	oks(t, d.Create("a"), d.Append("a", []byte("q")), d.SyncDir(), d.Remove("a"))
	wantFiles(t, "no byte lasts", d, state{"a", "", 0, false, true})
}

// P7.2 to P7.5: of one that may come back, or that never was, just File tells anything.
func TestNone(t *testing.T) {
	d := removed(t)
	for call, do := range named() {
		if call == "Create" {
			continue
		}
		want(t, call+" of none", do(d, "zz"), api.ErrNone)
		if call != "File" {
			want(t, call+" of one that may come back", do(d, "a"), api.ErrNone)
		}
	}
	wantFiles(t, "refused", d, state{"a", "xyz", 3, false, true})
	wantSteps(t, "refused", d, 6, 0)
	oks(t, d.SyncDir())
	for call, do := range named() {
		if call != "Create" {
			want(t, call+" behind SyncDir", do(d, "a"), api.ErrNone)
		}
	}
	wantSteps(t, "refused", d, 7, 0)
}

// P7.2: not good: it is there as it was.
func TestRemoveFates(t *testing.T) {
	for _, last := range []bool{false, true} {
		d := written(t)
		if last {
			oks(t, d.SyncDir())
		}
		steps, _ := d.Steps()
		oks(t, d.Feed(fail(2), full(9)))
		want(t, "fail", d.Remove("a"), api.ErrDisk)
		wantFiles(t, "fail", d, state{"a", "xyzuv", 3, true, last})
		want(t, "full", d.Remove("a"), api.ErrFull)
		wantFiles(t, "full", d, state{"a", "xyzuv", 3, true, last})
		wantSteps(t, "both", d, steps+2, 0)
		oks(t, d.Remove("a"))
	}
}
