package stops_test

import (
	"fmt"
	"iter"
	"math"
	"slices"
	"strings"
	"testing"

	"millrace/api"
	"millrace/disk"
	"millrace/stops"
)

// state is how a file is to stand ahead of a crash: its bytes up to the sign | last.
type state struct {
	name, bytes      string
	there, nameLasts bool
}

// oks fails if one is an error.
func oks(t *testing.T, l ...api.Errno) {
	t.Helper()
	for i, e := range l {
		if e != api.OK {
			t.Fatalf("call %d: %v", i, e)
		}
	}
}

// diskOf is a disk with these files. The names that last are made first, and synced.
func diskOf(t *testing.T, files ...state) *disk.Disk {
	t.Helper()
	d, e := disk.New()
	oks(t, e)
	for _, f := range files {
		if f.nameLasts {
			oks(t, d.Create(f.name))
		}
	}
	oks(t, d.SyncDir())
	for _, f := range files {
		if !f.nameLasts {
			oks(t, d.Create(f.name))
		}
		lasting, rest, _ := strings.Cut(f.bytes, "|")
		oks(t, d.Append(f.name, []byte(lasting)), d.Sync(f.name), d.Append(f.name, []byte(rest)))
		if !f.there {
			oks(t, d.Remove(f.name))
		}
	}
	return d
}

// names is a disk with so many files without bytes whose names do not last: 2 ways each.
func names(t *testing.T, n int) *disk.Disk {
	t.Helper()
	d := diskOf(t)
	for i := range n {
		oks(t, d.Create(fmt.Sprintf("n-%04d", i)))
	}
	return d
}

// withBytes puts a file on a disk, whose name lasts, and of whose bytes so many do not. (The directory is synced: ahead of all whose names are not to last.)
func withBytes(t *testing.T, d *disk.Disk, name string, unsure int) {
	t.Helper()
	oks(t, d.Create(name), d.SyncDir(), d.Append(name, make([]byte, unsure)))
}

// example is the chapter's disk.
func example(t *testing.T) *disk.Disk {
	t.Helper()
	return diskOf(t, state{"a", "x|yz", true, true}, state{"b", "", true, false})
}

// way is a plain stop, and what it leaves: name:bytes of each file, with blanks between.
type way struct {
	picks []int
	left  string
}

// shape is a disk, and all its ways, in their order.
type shape struct {
	what  string
	files []state
	ways  []way
}

// shapes are disks at the edges that the chapters name.
func shapes() []shape {
	return []shape{
		{"no files", nil, []way{{nil, ""}}},
		{"the chapter's", []state{{"a", "x|yz", true, true}, {"b", "", true, false}}, []way{
			{[]int{0, 0}, "a:x"}, {[]int{0, 1}, "a:x b:"}, {[]int{1, 0}, "a:xy"}, {[]int{1, 1}, "a:xy b:"}, {[]int{2, 0}, "a:xyz"}, {[]int{2, 1}, "a:xyz b:"}}},
		{"all lasts", []state{{"a", "xyz|", true, true}, {"b", "", true, true}}, []way{{nil, "a:xyz b:"}}},
		{"none of its bytes lasts", []state{{"a", "|xy", true, true}}, []way{{[]int{0}, "a:"}, {[]int{1}, "a:x"}, {[]int{2}, "a:xy"}}},
		{"some last", []state{{"a", "xy|z", true, true}}, []way{{[]int{0}, "a:xy"}, {[]int{1}, "a:xyz"}}},
		{"its name does not, without bytes", []state{{"a", "", true, false}}, []way{{[]int{0}, ""}, {[]int{1}, "a:"}}},
		{"its name does not, all bytes do", []state{{"a", "xy|", true, false}}, []way{{[]int{0}, ""}, {[]int{1}, "a:xy"}}},
		{"neither name nor bytes do", []state{{"a", "|xy", true, false}}, []way{{[]int{0}, ""}, {[]int{1, 0}, "a:"}, {[]int{1, 1}, "a:x"}, {[]int{1, 2}, "a:xy"}}},
		{"its name does not, some bytes do", []state{{"a", "x|y", true, false}}, []way{{[]int{0}, ""}, {[]int{1, 0}, "a:x"}, {[]int{1, 1}, "a:xy"}}},
		{"may come back", []state{{"a", "xy|", false, true}}, []way{{[]int{0}, ""}, {[]int{1}, "a:xy"}}},
		{"may come back without bytes", []state{{"a", "", false, true}}, []way{{[]int{0}, ""}, {[]int{1}, "a:"}}},
		{"may come back with what lasted", []state{{"a", "x|yz", false, true}}, []way{{[]int{0}, ""}, {[]int{1}, "a:x"}}},
		{"was removed, its name did not last", []state{{"a", "x|yz", false, false}}, []way{{nil, ""}}},
		{"by rising names", []state{{"c", "|c", true, true}, {"b", "b|", false, true}, {"a", "|a", true, false}, {"aa", "s|", true, true}}, []way{
			{[]int{0, 0, 0}, "aa:s c:"}, {[]int{0, 0, 1}, "aa:s c:c"}, {[]int{0, 1, 0}, "aa:s b:b c:"}, {[]int{0, 1, 1}, "aa:s b:b c:c"},
			{[]int{1, 0, 0, 0}, "a: aa:s c:"}, {[]int{1, 0, 0, 1}, "a: aa:s c:c"}, {[]int{1, 0, 1, 0}, "a: aa:s b:b c:"}, {[]int{1, 0, 1, 1}, "a: aa:s b:b c:c"},
			{[]int{1, 1, 0, 0}, "a:a aa:s c:"}, {[]int{1, 1, 0, 1}, "a:a aa:s c:c"}, {[]int{1, 1, 1, 0}, "a:a aa:s b:b c:"}, {[]int{1, 1, 1, 1}, "a:a aa:s b:b c:c"}}},
		{"one that is gone ahead of one that is unsure", []state{{"a", "1|2", true, false}, {"b", "3|4", true, false}}, []way{
			{[]int{0, 0}, ""}, {[]int{0, 1, 0}, "b:3"}, {[]int{0, 1, 1}, "b:34"},
			{[]int{1, 0, 0}, "a:1"}, {[]int{1, 0, 1, 0}, "a:1 b:3"}, {[]int{1, 0, 1, 1}, "a:1 b:34"},
			{[]int{1, 1, 0}, "a:12"}, {[]int{1, 1, 1, 0}, "a:12 b:3"}, {[]int{1, 1, 1, 1}, "a:12 b:34"}}},
	}
}

// left tells what is on a disk; all of it lasts, or a sign tells what does not.
func left(d *disk.Disk) string {
	var l []string
	for f := range d.All() {
		b, _ := d.Read(f.Name, 0, math.MaxInt)
		s := f.Name + ":" + string(b)
		if !f.There || !f.NameLasts || f.Lasts != f.Size {
			s += "?"
		}
		l = append(l, s)
	}
	return strings.Join(l, " ")
}

// none are a nil disk and a zero one.
func none() map[string]*disk.Disk { return map[string]*disk.Disk{"nil": nil, "zero": {}} }

// stopBy is a stop by these picks.
func stopBy(picks ...int) api.Stop { return api.Stop{Picks: picks} }

// wantPlain asks Plain for these picks.
func wantPlain(t *testing.T, what string, d *disk.Disk, s api.Stop, picks []int) {
	t.Helper()
	if got, e := stops.Plain(d, s); !slices.Equal(got.Picks, picks) || e != api.OK {
		t.Errorf("%s: Plain of %v: %v %v, want %v", what, s.Picks, got.Picks, e, picks)
	}
}

// wantNumber asks Number for this one.
func wantNumber(t *testing.T, what string, d *disk.Disk, s api.Stop, n int64) {
	t.Helper()
	if got, e := stops.Number(d, s); got != n || e != api.OK {
		t.Errorf("%s: Number of %v: %d %v, want %d", what, s.Picks, got, e, n)
	}
}

// wantAt asks At for these picks.
func wantAt(t *testing.T, what string, d *disk.Disk, n int64, picks []int) {
	t.Helper()
	if got, e := stops.At(d, n); !slices.Equal(got.Picks, picks) || e != api.OK {
		t.Errorf("%s: At %d: %v %v, want %v", what, n, got.Picks, e, picks)
	}
}

// wantCount asks Count for so many.
func wantCount(t *testing.T, what string, d *disk.Disk, n int64) {
	t.Helper()
	if got, e := stops.Count(d); got != n || e != api.OK {
		t.Errorf("%s: Count: %d %v, want %d", what, got, e, n)
	}
}

// refusals are what the four calls with a stop or a number answer; -1 where something stands beside an error.
func refusals(d *disk.Disk, s api.Stop, n int64) [4]api.Errno {
	count, e0 := stops.Count(d)
	plain, e1 := stops.Plain(d, s)
	number, e2 := stops.Number(d, s)
	at, e3 := stops.At(d, n)
	out := [4]api.Errno{e0, e1, e2, e3}
	for i, zero := range []bool{count == 0, len(plain.Picks) == 0, number == 0, len(at.Picks) == 0} {
		if out[i] != api.OK && !zero {
			out[i] = -1
		}
	}
	return out
}

// wantWays asks an iterator for these ways, in their order.
func wantWays(t *testing.T, what string, all iter.Seq[api.Stop], ways []way) {
	t.Helper()
	i := 0
	for s := range all {
		if i >= len(ways) || !slices.Equal(s.Picks, ways[i].picks) {
			t.Errorf("%s: All: %v at %d", what, s.Picks, i)
		}
		i++
	}
	if i != len(ways) {
		t.Errorf("%s: All: %d ways, want %d", what, i, len(ways))
	}
}

// wantImages asks an iterator for these ways, and what they leave.
func wantImages(t *testing.T, what string, all iter.Seq2[api.Stop, *disk.Disk], ways []way) {
	t.Helper()
	i := 0
	for s, o := range all {
		if i >= len(ways) || !slices.Equal(s.Picks, ways[i].picks) || left(o) != ways[i].left {
			t.Errorf("%s: Images: %v, %q at %d", what, s.Picks, left(o), i)
		}
		if steps, fates := o.Steps(); steps != 0 || fates != 0 {
			t.Errorf("%s: Images: %d steps, %d fates at %d", what, steps, fates, i)
		}
		i++
	}
	if i != len(ways) {
		t.Errorf("%s: Images: %d ways, want %d", what, i, len(ways))
	}
}
