package disk_test

import (
	"fmt"
	"math/rand"
	"strings"
	"testing"

	"millrace/api"
	"millrace/disk"
)

// pair is a disk, and the plain one that it is to be as.
type pair struct {
	d *disk.Disk
	p *plain
}

// step does one thing that is drawn, to both.
func (x pair) step(t *testing.T, r *rand.Rand) {
	t.Helper()
	name := []string{"a", "b", "c", "d-1", "e.", "A", ""}[r.Intn(6)+r.Intn(50)/49]
	var what string
	var got, want api.Errno
	switch r.Intn(9) {
	case 0, 1:
		what, got, want = "Create", x.d.Create(name), x.p.create(name)
	case 2, 3:
		b := "0123456789"[r.Intn(9):][:r.Intn(2)+r.Intn(2)]
		what, got, want = "Append "+b, x.d.Append(name, []byte(b)), x.p.append(name, b)
	case 4:
		what, got, want = "Sync", x.d.Sync(name), x.p.sync(name)
	case 5:
		what, got, want = "SyncDir", x.d.SyncDir(), x.p.syncDir()
	case 6:
		size := r.Intn(9) - 1
		what, got, want = fmt.Sprint("Cut ", size), x.d.Cut(name, size), x.p.cut(name, size)
	case 7:
		what, got, want = "Remove", x.d.Remove(name), x.p.remove(name)
	case 8:
		f := api.Fate{Kind: api.FateKind(r.Intn(3)), Keep: r.Intn(5) - 1}
		x.p.fates = append(x.p.fates, f)
		what, got = "Feed", x.d.Feed(f)
	}
	if got != want {
		t.Fatalf("%s of %q: %v, want %v", what, name, got, want)
	}
}

// P7.1 to P7.6: drawn calls, held to the chapter's words behind each one, and each way of a crash behind some.
func TestDrawn(t *testing.T) {
	r := rand.New(rand.NewSource(7))
	for range 60 {
		x := pair{fresh(t), &plain{}}
		for i := range 80 {
			x.step(t, r)
			wantFiles(t, "drawn", x.d, x.p.states()...)
			wantSteps(t, "drawn", x.d, x.p.steps, len(x.p.fates))
			if i%20 == 19 {
				x.crashes(t)
			}
			if t.Failed() {
				t.FailNow()
			}
		}
	}
}

// crashes goes all ways of a crash.
func (x pair) crashes(t *testing.T) {
	t.Helper()
	files := x.p.states()
	for _, w := range ways(files) {
		o := crashed(t, x.d, w.picks...)
		wantFiles(t, fmt.Sprint("crash ", w.picks), o, w.left...)
		wantSteps(t, "crash", o, 0, 0)
		wantFollows(t, files, o)
	}
}

// wantFollows asks for what P7.7 says of a disk that a crash of one with these files left.
func wantFollows(t *testing.T, files []state, o *disk.Disk) {
	t.Helper()
	known := 0
	for _, s := range files {
		f, e := o.File(s.name)
		if s.there && s.nameLasts && e != api.OK {
			t.Errorf("%s is not there", s.name)
		}
		if e != api.OK {
			continue
		}
		known++
		b, _ := o.Read(s.name, 0, f.Size)
		if !strings.HasPrefix(s.bytes, string(b)) || len(b) < s.lasts {
			t.Errorf("%s: %q of %q, of which %d last", s.name, b, s.bytes, s.lasts)
		}
		if !f.There || !f.NameLasts || f.Lasts != f.Size {
			t.Errorf("%v does not last", f)
		}
	}
	if n := len(o.Names()); n != known {
		t.Errorf("%d files, %d of which were there", n, known)
	}
}

// P7.7: behind Sync of all files and SyncDir each crash leaves the same: the disk as it is. So it is behind a crash.
func TestAllSynced(t *testing.T) {
	r := rand.New(rand.NewSource(77))
	for range 60 {
		x := pair{fresh(t), &plain{}}
		for range 60 {
			x.step(t, r)
		}
		d := crashed(t, x.d, r.Perm(20)...)
		for range 20 {
			if o := crashed(t, d, r.Perm(9)...); !o.Same(d) {
				t.Fatal("a crash behind another")
			}
		}
		for _, left := x.d.Steps(); left > 0; left-- {
			x.d.SyncDir()
		}
		for _, name := range x.d.Names() {
			oks(t, x.d.Sync(name))
		}
		oks(t, x.d.SyncDir())
		for range 20 {
			if o := crashed(t, x.d, r.Perm(9)...); !o.Same(x.d) {
				t.Fatal("all was synced")
			}
		}
	}
}

// P7.7: what is refused takes no fate, whatever refuses it.
func TestRefusedTakesNoFate(t *testing.T) {
	d := removed(t)
	oks(t, d.Create("b"), d.Append("b", []byte("q")), d.Feed(fail(0), full(0)))
	steps, _ := d.Steps()
	for what, e := range map[string]api.Errno{
		"no name": d.Create("B"), "there": d.Create("b"), "may come back": d.Create("a"), "no such": d.Append("zz", nil),
		"gone": d.Append("a", nil), "too much": d.Append("b", make([]byte, api.MaxSize)), "sync of none": d.Sync("zz"), "sync of one gone": d.Sync("a"),
		"cut below 0": d.Cut("b", -1), "cut past": d.Cut("b", 2), "cut of none": d.Cut("zz", 0), "cut of one gone": d.Cut("a", 0),
		"remove of none": d.Remove("zz"), "remove of one gone": d.Remove("a"), "no name to remove": d.Remove(""), "no name to sync": d.Sync("b/"),
		"no fate": d.Feed(api.Fate{Kind: 9}), "read of none": readError(d, "zz", 0, 0), "file of none": fileError(d, "zz"),
	} {
		if e == api.OK || e == api.ErrDisk {
			t.Error(what, e)
		}
	}
	wantSteps(t, "refused", d, steps, 2)
	wantFiles(t, "refused", d, state{"a", "xyz", 3, false, true}, state{"b", "q", 0, true, false})
	want(t, "the first fate", d.Sync("b"), api.ErrDisk)
	want(t, "the second one", d.Sync("b"), api.ErrFull)
	oks(t, d.Sync("b"))
}

// P7.1 to P7.6: of several errors the one that the chapter names first.
func TestErrorOrder(t *testing.T) {
	d := removed(t)
	oks(t, d.Create("b"))
	tooMuch := make([]byte, api.MaxSize+1)
	want(t, "Append, no name, too much", d.Append("B", tooMuch), api.ErrArg)
	want(t, "Append, none, too much", d.Append("zz", tooMuch), api.ErrNone)
	want(t, "Append, gone, too much", d.Append("a", tooMuch), api.ErrNone)
	want(t, "Append, too much", d.Append("b", tooMuch), api.ErrFull)
	want(t, "Cut, no name, no size", d.Cut("", -1), api.ErrArg)
	want(t, "Cut, none, no size", d.Cut("zz", -1), api.ErrNone)
	want(t, "Cut, gone, no size", d.Cut("a", 9), api.ErrNone)
	want(t, "Read, no name, no place", readError(d, "b b", -1, -1), api.ErrArg)
	want(t, "Read, none, no place", readError(d, "zz", -1, 1), api.ErrNone)
	want(t, "Read, gone, no n", readError(d, "a", 0, -1), api.ErrNone)
	crowd(t, d, api.MaxFiles-1)
	want(t, "Create, full", d.Create("zz"), api.ErrFull)
	want(t, "Create, there, full", d.Create("b"), api.ErrThere)
	want(t, "Create, gone, full", d.Create("a"), api.ErrThere)
	want(t, "Create, no name, full", d.Create("a_"), api.ErrArg)
	oks(t, d.Feed(fail(0)))
	want(t, "Create, full, a fate", d.Create("zz"), api.ErrFull)
	want(t, "Cut, no size, a fate", d.Cut("b", 1), api.ErrRange)
	want(t, "the fate", d.Cut("b", 0), api.ErrDisk)
}
