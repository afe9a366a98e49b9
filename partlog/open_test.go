package partlog_test

import (
	"bytes"
	"math/rand"
	"slices"
	"testing"

	"millrace/api"
	"millrace/disk"
	"millrace/partlog"
)

var usual = api.LogConfig{Roll: 40, Step: 64}

// P11.1: a disk that is none, names and configurations that may not be, in this order; no step is done.
func TestOpenRefused(t *testing.T) {
	for what, d := range noDisks() {
		want(t, what, openError(d, "p", usual), api.ErrNil)
		want(t, what+", no name", openError(d, "P", api.LogConfig{}), api.ErrNil)
	}
	d := fresh(t)
	lay(t, d, nameOf(0), []byte("corrupt"))
	oks(t, d.Feed(fail(0)))
	was := d.Copy()
	for _, name := range badNames() {
		want(t, name, openError(d, name, usual), api.ErrArg)
	}
	for _, c := range badConfigs() {
		for _, name := range []string{"p", "q"} {
			if e := openError(d, name, c); e != api.ErrArg {
				t.Errorf("%s: %v: %v", name, c, e)
			}
		}
	}
	wantUntouched(t, "refused", d, was)
}

// P11.1: the edges of names and configurations; without a segment one with the base 0 is made, and its name lasts.
func TestOpenNew(t *testing.T) {
	for _, name := range []string{"a", "z", "p", "abcdefgh", "zzzzzzzz"} {
		for _, c := range []api.LogConfig{{Roll: 1, Step: 1}, {Roll: maxRoll, Step: maxStep}, {Roll: 1, Step: maxStep}, {Roll: 4096, Step: 64}} {
			d := fresh(t)
			l, e := partlog.Open(d, name, c)
			if e != api.OK || l.State() != (api.LogState{Segments: 1}) {
				t.Fatalf("%s %v: %v %v", name, c, e, l.State())
			}
			file := name + "-00000000000000"
			if f, e := d.File(file); f != (api.File{Name: file, There: true, NameLasts: true}) || e != api.OK {
				t.Errorf("%s %v: %v %v", name, c, f, e)
			}
			if n, _ := d.Steps(); n != 2 || !slices.Equal(l.Segments(), []string{file}) {
				t.Errorf("%s %v: %d steps, %v", name, c, n, l.Segments())
			}
		}
	}
}

// P11.1: steps that fail end it; what they did ahead stays on the disk.
func TestOpenNewFails(t *testing.T) {
	for _, bad := range []api.Fate{fail(0), full(9)} {
		e := api.ErrDisk
		if bad.Kind == api.FateFull {
			e = api.ErrFull
		}
		for n := range 2 {
			d := fresh(t, behind(n, bad)...)
			want(t, "Open", openError(d, "p", usual), e)
			if steps, _ := d.Steps(); steps != n+1 || len(d.Names()) != n {
				t.Errorf("%d steps, %v", steps, d.Names())
			}
			both(t, d, usual)
		}
	}
}

// P11.1: disk's refusals are its errors: a file that may come back is in the way, or there are too many.
func TestOpenNewInTheWay(t *testing.T) {
	d := fresh(t)
	lay(t, d, nameOf(0), nil)
	oks(t, d.Remove(nameOf(0)))
	want(t, "may come back", openError(d, "p", usual), api.ErrThere)
	wantCheck(t, "may come back", d, api.LogState{Segments: 1}, api.OK)

	d = fresh(t)
	for i := range api.MaxFiles {
		oks(t, d.Create("f"+digits(int64(i))))
	}
	want(t, "many files", openError(d, "p", usual), api.ErrFull)
	wantCheck(t, "many files", d, api.LogState{Segments: 1}, api.OK)
}

// P11.1: the log's segments are just the files whose names say so, by rising base.
func TestOpenNames(t *testing.T) {
	d := fresh(t)
	for _, name := range []string{
		"p", "p-", "p-0", "p-0000000000000", "p-000000000000000", "p-0000000000000g", "p.00000000000000", "p-20000000000001", "p-ffffffffffffff",
		"pp-00000000000000", "q-00000000000007", "o-00000000000000", "0p-00000000000000", "p-00000000000000-", "p-00000000000000.old", "a.p-00000000000000",
	} {
		lay(t, d, name, []byte("what is no batch"))
	}
	l, _ := both(t, d.Copy(), usual)
	if !slices.Equal(l.Segments(), []string{nameOf(0)}) {
		t.Error(l.Segments())
	}
	for _, base := range []int64{16, 9, 10, 7} {
		n := map[int64]int{7: 2, 9: 1, 10: 6, 16: 3}[base]
		lay(t, d, nameOf(base), batchesBytes(batchesFrom(base, n)))
	}
	lay(t, d, nameOf(3), nil)
	oks(t, d.Remove(nameOf(3))) // may come back: it is not there
	l, p := both(t, d, usual)
	if !slices.Equal(l.Segments(), []string{nameOf(7), nameOf(9), nameOf(10), nameOf(16)}) || l.State() != (api.LogState{Begin: 7, End: 19, Stands: 19, Segments: 4}) {
		t.Error(l.Segments(), l.State())
	}
	wantAppend(t, "goes on", l, d, p, one())
}

// laidCase is segments of the log p, each by its base and bytes, and what Open answers.
type laidCase struct {
	what  string
	files map[int64][]byte
	e     api.Errno
}

// laidCases are segments that are right, corrupt, torn, with gaps; several of these, too: then ErrCorrupt comes ahead of ErrTorn, and that ahead of ErrGap, wherever in the log they are.
func laidCases() []laidCase {
	two, other := batchesBytes(batchesFrom(0, 1, 1)), batchesBytes(batchesFrom(2, 3))
	last := batchesBytes(batchesFrom(5, 1, 2))
	torn := func(b []byte) []byte { return append(slices.Clone(b), 28, 0, 0) }
	bad := func(b []byte) []byte { return append(slices.Clone(b), 27, 0, 0, 0) }
	half := func(b []byte) []byte { return b[:len(b)-1] }
	return []laidCase{
		{"right", map[int64][]byte{0: two, 2: other, 5: last}, api.OK},
		{"one", map[int64][]byte{2: other}, api.OK},
		{"the last one empty", map[int64][]byte{0: two, 2: nil}, api.OK},
		{"one, empty, far", map[int64][]byte{api.MaxOffset: nil}, api.OK},
		{"the last one torn", map[int64][]byte{0: two, 2: torn(other)}, api.OK},
		{"the last one torn in its only batch", map[int64][]byte{0: two, 2: half(other)}, api.OK},
		{"the last one torn in its second batch", map[int64][]byte{0: two, 2: other, 5: half(last)}, api.OK},
		{"the only one torn", map[int64][]byte{2: {1}}, api.OK},
		{"the first one corrupt", map[int64][]byte{0: bad(two), 2: other}, api.ErrCorrupt},
		{"a middle one corrupt", map[int64][]byte{0: two, 2: bad(other), 5: last}, api.ErrCorrupt},
		{"the last one corrupt", map[int64][]byte{0: two, 2: bad(other)}, api.ErrCorrupt},
		{"the only one corrupt", map[int64][]byte{0: bad(nil)}, api.ErrCorrupt},
		{"a batch of another base", map[int64][]byte{0: two, 2: batchesBytes(batchesFrom(3, 1))}, api.ErrCorrupt},
		{"the first one torn", map[int64][]byte{0: torn(two), 2: other}, api.ErrTorn},
		{"the first one torn in its batch", map[int64][]byte{0: half(two), 2: other}, api.ErrTorn},
		{"a middle one torn", map[int64][]byte{0: two, 2: torn(other), 5: last}, api.ErrTorn},
		{"torn, ahead of an empty one", map[int64][]byte{0: torn(two), 2: nil}, api.ErrTorn},
		{"a gap", map[int64][]byte{0: two, 5: last}, api.ErrGap},
		{"a gap of one", map[int64][]byte{0: two, 3: batchesBytes(batchesFrom(3, 1))}, api.ErrGap},
		{"one twice", map[int64][]byte{0: two, 1: batchesBytes(batchesFrom(1, 1))}, api.ErrGap},
		{"an empty one ahead", map[int64][]byte{0: nil, 2: other}, api.ErrGap},
		{"a gap ahead of an empty one", map[int64][]byte{0: two, 3: nil}, api.ErrGap},
		{"a gap ahead of a torn one", map[int64][]byte{0: two, 5: torn(last)}, api.ErrGap},
		{"a gap ahead of a corrupt one", map[int64][]byte{0: two, 5: bad(last)}, api.ErrCorrupt},
		{"a gap ahead of a torn one, not the last", map[int64][]byte{0: two, 5: torn(last), 8: nil}, api.ErrTorn},
		{"a gap ahead of an empty one, then corrupt", map[int64][]byte{0: nil, 3: nil, 5: bad(nil)}, api.ErrCorrupt},
		{"a gap, then torn, not the last", map[int64][]byte{0: two, 3: nil, 5: torn(last), 8: nil}, api.ErrTorn},
		{"a gap, then the last one torn", map[int64][]byte{0: two, 3: nil, 5: torn(last)}, api.ErrGap},
		{"torn, then a gap", map[int64][]byte{0: torn(two), 5: last}, api.ErrTorn},
		{"torn, then corrupt", map[int64][]byte{0: torn(two), 2: bad(other), 5: last}, api.ErrCorrupt},
		{"torn, then the last one corrupt", map[int64][]byte{0: two, 2: torn(other), 5: bad(last)}, api.ErrCorrupt},
		{"a gap, then torn, then corrupt", map[int64][]byte{0: two, 3: nil, 5: torn(last), 8: bad(nil)}, api.ErrCorrupt},
		{"corrupt, then a gap", map[int64][]byte{0: bad(two), 5: last}, api.ErrCorrupt},
		{"corrupt, then torn", map[int64][]byte{0: bad(two), 2: torn(other), 5: last}, api.ErrCorrupt},
		{"corrupt, and the last one torn", map[int64][]byte{0: bad(two), 2: torn(other)}, api.ErrCorrupt},
	}
}

// laidDisk is a disk with these segments.
func laidDisk(t *testing.T, files map[int64][]byte) *disk.Disk {
	t.Helper()
	d := fresh(t)
	for base, b := range files {
		lay(t, d, nameOf(base), b)
	}
	return d
}

// P11.1, P11.4: files that are right, and that are not; these are left as they are. Check says what Open does.
func TestOpenLaid(t *testing.T) {
	for _, c := range laidCases() {
		d := laidDisk(t, c.files)
		was := d.Copy()
		if c.e != api.OK {
			want(t, c.what, openError(d, "p", usual), c.e)
			want(t, c.what+": Check", checkError(d, "p"), c.e)
			wantUntouched(t, c.what, d, was)
			continue
		}
		p, e := openPlain(d.Copy(), "p", usual)
		want(t, c.what+": plain", e, api.OK)
		wantCheck(t, c.what, d, p.state(), api.OK)
		l, p := both(t, d, usual)
		if s := l.State(); s.Stands != s.End || s.Segments != len(c.files) {
			t.Errorf("%s: %v", c.what, s)
		}
		wantCheck(t, c.what+": behind Open", d, p.state(), api.OK)
		wantAppend(t, c.what+": goes on", l, d, p, one())
	}
}

// P11.1, P11.4: four segments, each of them right, torn or corrupt, with a gap ahead of it or without one: which error is told hangs on the order that P11.1 names, not on where in the log it is.
func TestOpenOrder(t *testing.T) {
	behind := [][]byte{nil, {28, 0, 0}, {27, 0, 0, 0}}
	whyOf := []api.Errno{api.ErrEnd, api.ErrTorn, api.ErrCorrupt}
	const segments, kinds = 4, 6
	met := map[api.Errno]int{}
	for n := range kinds * kinds * kinds * kinds {
		d, base, gap := fresh(t), int64(0), false
		var whys []api.Errno
		for i := range segments {
			kind := n % kinds
			n /= kinds
			if kind >= len(behind) {
				base += 2
				gap = gap || i > 0
			}
			kind %= len(behind)
			lay(t, d, nameOf(base), slices.Concat(batchesBytes(batchesFrom(base, 1)), behind[kind]))
			whys = append(whys, whyOf[kind])
			base++
		}
		e := orderOf(whys, gap)
		met[e]++
		was := d.Copy()
		want(t, "Check", checkError(d, "p"), e)
		if e != api.OK {
			want(t, "Open", openError(d, "p", usual), e)
			wantUntouched(t, "refused", d, was)
		} else {
			both(t, d, usual)
		}
		if t.Failed() {
			t.Fatal(whys, d.Names())
		}
	}
	for _, e := range []api.Errno{api.OK, api.ErrCorrupt, api.ErrTorn, api.ErrGap} {
		if met[e] == 0 {
			t.Errorf("%v: never", e)
		}
	}
}

// P11.1: the last one is synced, cut too if it is torn, and none of the others.
func TestOpenSyncs(t *testing.T) {
	for _, torn := range []int{0, 1, 40} {
		d := fresh(t)
		whole := batchesBytes(batchesFrom(2, 1, 2))
		lay(t, d, nameOf(0), batchesBytes(batchesFrom(0, 2)))
		b := slices.Concat(whole, batchBytes(batchesFrom(5, 2)[0])[:torn])
		oks(t, d.Create(nameOf(2)), d.Append(nameOf(2), b), d.SyncDir())
		n, _ := d.Steps()
		l, _ := both(t, d, usual)
		m, _ := d.Steps()
		if torn == 0 && m-n != 1 || torn > 0 && m-n != 3 || l.State().Stands != 5 {
			t.Errorf("%d: %d steps, %v", torn, m-n, l.State())
		}
		if f, _ := d.File(nameOf(2)); f.Lasts != len(whole) || f.Size != len(whole) {
			t.Errorf("%d: %v, want %d", torn, f, len(whole))
		}
	}
}

// P11.1: each step of a log that has files may fail: its error, and no log; it can be opened behind that.
func TestOpenFails(t *testing.T) {
	for torn := range 2 {
		for _, bad := range []api.Fate{fail(0), full(0), fail(99)} {
			for n := range 1 + 2*torn {
				d := laidDisk(t, map[int64][]byte{0: batchesBytes(batchesFrom(0, 2)), 2: append(batchesBytes(batchesFrom(2, 1)), make([]byte, torn)...)})
				oks(t, d.Feed(behind(n, bad)...))
				p := d.Copy()
				_, e := openPlain(p, "p", usual)
				if e == api.OK {
					t.Fatal("the plain one goes well")
				}
				want(t, "Open", openError(d, "p", usual), e)
				wantUntouched(t, "as the plain one", d, p)
				both(t, d, usual)
			}
		}
	}
}

// P11.1: a log is opened with another configuration than it was made with, and goes on by that; Step changes nothing that is told.
func TestOpenAnotherConfig(t *testing.T) {
	d := fresh(t)
	l, p := both(t, d, api.LogConfig{Roll: 4096, Step: 64})
	for i := range 3 {
		wantAppend(t, "large", l, d, p, some(2, i)...)
	}
	for i, c := range []api.LogConfig{{Roll: 1, Step: 1}, {Roll: maxRoll, Step: maxStep}, {Roll: 50, Step: 33}} {
		l, p = both(t, d, c)
		for range 3 {
			wantAppend(t, "another", l, d, p, some(1+i, i)...)
		}
		for from := range p.end() + 1 {
			wantRead(t, "another", l, p, from, p.end(), 3)
		}
	}
}

// P11.1: a log's name is not another's; two logs of one disk go on apart.
func TestOpenTwo(t *testing.T) {
	d := fresh(t)
	l, e := partlog.Open(d, "p", usual)
	oks(t, e)
	m, e := partlog.Open(d, "pa", usual)
	oks(t, e)
	for i := range 4 {
		oks(t, appendError(l, some(1, i)...), appendError(m, some(3, i)...))
	}
	oks(t, l.Sync(), m.Sync())
	if n, e := l.Drop(3); n != 1 || e != api.OK {
		t.Errorf("Drop: %d %v", n, e)
	}
	for _, x := range []*partlog.Log{l, m} {
		name := x.Segments()[0]
		name = name[:len(name)-15]
		if s, e := partlog.Check(d, name); s != x.State() || e != api.OK {
			t.Errorf("%s: %v %v, want %v", name, s, e, x.State())
		}
	}
	if l.State().End != 4 || m.State().End != 12 {
		t.Errorf("%v %v", l.State(), m.State())
	}
}

// P11.1, P11.4: drawn files, of which bytes were changed, cut off and put behind, or which were taken away: Open and Check answer as the plain ones.
func TestOpenDrawn(t *testing.T) {
	r := rand.New(rand.NewSource(11))
	met := map[api.Errno]int{}
	for range 3000 {
		d := drawnDisk(t, r)
		q := d.Copy()
		p, e := openPlain(q, "p", usual)
		met[e]++
		if e != api.OK {
			was := d.Copy()
			want(t, "drawn", openError(d, "p", usual), e)
			wantCheck(t, "drawn", d, api.LogState{}, e)
			wantUntouched(t, "drawn", d, was)
		} else {
			wantCheck(t, "drawn", d, p.state(), api.OK)
			both(t, d, usual)
		}
		if t.Failed() {
			t.FailNow()
		}
	}
	for _, e := range []api.Errno{api.OK, api.ErrCorrupt, api.ErrTorn, api.ErrGap} {
		if met[e] < 50 {
			t.Errorf("%v: just %d times", e, met[e])
		}
	}
}

// drawnDisk has a right log's files, most of them as they were.
func drawnDisk(t *testing.T, r *rand.Rand) *disk.Disk {
	t.Helper()
	d, base := fresh(t), int64(r.Intn(3))
	for range 1 + r.Intn(4) {
		var counts []int
		for range 1 + r.Intn(3) {
			counts = append(counts, 1+r.Intn(3))
		}
		l := batchesFrom(base, counts...)
		b := batchesBytes(l)
		switch r.Intn(12) {
		case 0:
			b[r.Intn(len(b))] ^= byte(1 + r.Intn(255))
		case 1:
			b = b[:r.Intn(len(b)+1)]
		case 2:
			b = append(b, bytes.Repeat([]byte{byte(r.Intn(40))}, r.Intn(6))...)
		case 3:
			b = slices.Concat(b, batchBytes(l[r.Intn(len(l))]))
		}
		if r.Intn(10) > 0 {
			lay(t, d, nameOf(base), b)
		}
		last := l[len(l)-1]
		base = last.Base + int64(len(last.Records))
	}
	return d
}
