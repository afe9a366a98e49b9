package disk_test

import (
	"math"
	"slices"
	"strings"
	"testing"

	"millrace/api"
	"millrace/disk"
)

// state is how a file stands, its bytes too.
type state struct {
	name             string
	bytes            string
	lasts            int
	there, nameLasts bool
}

func fail(keep int) api.Fate { return api.Fate{Kind: api.FateFail, Keep: keep} }
func full(keep int) api.Fate { return api.Fate{Kind: api.FateFull, Keep: keep} }

// fresh is a disk that New made.
func fresh(t *testing.T, fates ...api.Fate) *disk.Disk {
	t.Helper()
	d, e := disk.New(fates...)
	if d == nil || e != api.OK {
		t.Fatal("New", fates, e)
	}
	return d
}

// oks fails if one is an error.
func oks(t *testing.T, l ...api.Errno) {
	t.Helper()
	for i, e := range l {
		if e != api.OK {
			t.Fatalf("call %d: %v", i, e)
		}
	}
}

// want asks for an answer.
func want(t *testing.T, what string, got, want api.Errno) {
	t.Helper()
	if got != want {
		t.Errorf("%s: %v, want %v", what, got, want)
	}
}

// wantSteps asks Steps for both numbers.
func wantSteps(t *testing.T, what string, d *disk.Disk, steps, left int) {
	t.Helper()
	if n, m := d.Steps(); n != steps || m != left {
		t.Errorf("%s: %d steps, %d fates left, want %d, %d", what, n, m, steps, left)
	}
}

// fileOf is what File tells of a file.
func fileOf(s state) api.File {
	return api.File{Name: s.name, Size: len(s.bytes), Lasts: s.lasts, There: s.there, NameLasts: s.nameLasts}
}

// wantFiles asks all calls that tell something for these files, which rise by their names, and for no others.
func wantFiles(t *testing.T, what string, d *disk.Disk, files ...state) {
	t.Helper()
	var all []api.File
	var names []string
	for _, s := range files {
		all = append(all, fileOf(s))
		if s.there {
			names = append(names, s.name)
		}
		wantFile(t, what, d, s)
	}
	if got := slices.Collect(d.All()); !slices.Equal(got, all) {
		t.Errorf("%s: All: %v, want %v", what, got, all)
	}
	if got := d.Names(); !slices.Equal(got, names) {
		t.Errorf("%s: Names: %v, want %v", what, got, names)
	}
}

// wantFile asks File and Read for one file.
func wantFile(t *testing.T, what string, d *disk.Disk, s state) {
	t.Helper()
	if f, e := d.File(s.name); f != fileOf(s) || e != api.OK {
		t.Errorf("%s: File: %v %v, want %v", what, f, e, fileOf(s))
	}
	b, e := d.Read(s.name, 0, math.MaxInt)
	if s.there && (string(b) != s.bytes || e != api.OK) {
		t.Errorf("%s: Read of %s: %.40q %v, want %.40q", what, s.name, b, e, s.bytes)
	}
	if !s.there && (b != nil || e != api.ErrNone) {
		t.Errorf("%s: Read of %s, which may come back: %.40q %v", what, s.name, b, e)
	}
}

// crashed is what a crash by these picks leaves.
func crashed(t *testing.T, d *disk.Disk, picks ...int) *disk.Disk {
	t.Helper()
	o, e := d.Crash(api.Stop{Picks: picks})
	if o == nil || e != api.OK {
		t.Fatal("Crash", picks, e)
	}
	return o
}

// written is a disk with a file a of xyz, that lasts, and uv behind it, that does not; the name does not last.
func written(t *testing.T) *disk.Disk {
	t.Helper()
	d := fresh(t)
	oks(t, d.Create("a"), d.Append("a", []byte("xyz")), d.Sync("a"), d.Append("a", []byte("uv")))
	return d
}

// removed is written, but its name lasts, and it was removed: it may come back with xyz.
func removed(t *testing.T) *disk.Disk {
	t.Helper()
	d := written(t)
	oks(t, d.SyncDir(), d.Remove("a"))
	return d
}

// noNames are texts that are no names, each for one reason.
func noNames() []string {
	l := []string{"", strings.Repeat("a", api.MaxFile+1), strings.Repeat("a", 1<<16), "A", "Z", "aB", "_", "/", "a/b", " ", "a ", "\x00", "a\x00", "é", "aé", "\xff", "\x80a", ",", "`", "{", ":", "a\n"}
	for c := range 256 {
		if !strings.ContainsRune("abcdefghijklmnopqrstuvwxyz0123456789.-", rune(c)) {
			l = append(l, string([]byte{byte(c)}), string([]byte{'a', byte(c)}), string([]byte{byte(c), '0'}), string([]byte{'.', byte(c), '-'}))
		}
	}
	return l
}

// someNames are names, at all the edges that there are.
func someNames() []string {
	l := []string{"..", "--", "-.-", "a.b-c", "0000000000000000", strings.Repeat("z", api.MaxFile), strings.Repeat(".", api.MaxFile), strings.Repeat("-", api.MaxFile-1), "p-0000000000000f"}
	for _, c := range []byte("abcdefghijklmnopqrstuvwxyz0123456789.-") {
		l = append(l, string([]byte{c}))
	}
	return l
}

// named are all calls that take a name, each with what else it takes, right or wrong.
func named() map[string]func(d *disk.Disk, name string) api.Errno {
	tooMuch := make([]byte, api.MaxSize+1)
	return map[string]func(d *disk.Disk, name string) api.Errno{
		"Create":          func(d *disk.Disk, name string) api.Errno { return d.Create(name) },
		"Append":          func(d *disk.Disk, name string) api.Errno { return d.Append(name, []byte("q")) },
		"Append of none":  func(d *disk.Disk, name string) api.Errno { return d.Append(name, nil) },
		"Append too much": func(d *disk.Disk, name string) api.Errno { return d.Append(name, tooMuch) },
		"Sync":            func(d *disk.Disk, name string) api.Errno { return d.Sync(name) },
		"Cut":             func(d *disk.Disk, name string) api.Errno { return d.Cut(name, 0) },
		"Cut below 0":     func(d *disk.Disk, name string) api.Errno { return d.Cut(name, -1) },
		"Cut past":        func(d *disk.Disk, name string) api.Errno { return d.Cut(name, math.MaxInt) },
		"Remove":          func(d *disk.Disk, name string) api.Errno { return d.Remove(name) },
		"Read":            func(d *disk.Disk, name string) api.Errno { return readError(d, name, 0, 1) },
		"Read past":       func(d *disk.Disk, name string) api.Errno { return readError(d, name, math.MaxInt, 1) },
		"Read below 0":    func(d *disk.Disk, name string) api.Errno { return readError(d, name, -1, -1) },
		"File":            func(d *disk.Disk, name string) api.Errno { return fileError(d, name) },
	}
}

// readError is Read's error; -1 if there are bytes beside it.
func readError(d *disk.Disk, name string, at, n int) api.Errno {
	b, e := d.Read(name, at, n)
	if e != api.OK && b != nil {
		return -1
	}
	return e
}

// fileError is File's error; -1 if there is a file beside it.
func fileError(d *disk.Disk, name string) api.Errno {
	f, e := d.File(name)
	if e != api.OK && f != (api.File{}) {
		return -1
	}
	return e
}
