package core_test

import (
	"slices"
	"testing"

	"millrace/api"
	"millrace/disk"
	"millrace/partlog"
	"millrace/stops"
)

// badConfigs may not be.
func badConfigs() []api.CoreConfig {
	l := []api.CoreConfig{{}}
	for _, n := range far() {
		c := config(n, 1, 1, 1)
		if n < 1 || n > 16 {
			l = append(l, c)
		}
		c = config(1, n, 1, 1)
		if n < 1 || n > 64 {
			l = append(l, c)
		}
		if n < 1 || n > 256 {
			l = append(l, config(1, 1, n, 1), config(1, 1, 1, n))
		}
	}
	for _, n := range append(far(), 1<<24-65536+1) {
		c := usual
		c.Log.Roll = n
		if n < 1 || n > 1<<24-65536 {
			l = append(l, c)
		}
	}
	for _, n := range append(far(), 1<<24+1) {
		c := usual
		c.Log.Step = n
		if n < 1 || n > 1<<24 {
			l = append(l, c)
		}
	}
	return l
}

// P16.1: no disk, ahead of a configuration that may not be.
func TestOpenNoDisk(t *testing.T) {
	for what, d := range map[string]*disk.Disk{"nil": nil, "zero": {}} {
		for _, c := range append(badConfigs(), usual) {
			wantNoCore(t, what, d, c, api.ErrNil)
		}
	}
}

// P16.1: a configuration that may not be, ahead of all steps, of logs that are wrong, and of faults.
func TestOpenWrong(t *testing.T) {
	for _, c := range badConfigs() {
		d := fresh(t)
		lay(t, d, "pa-00000000000000", []byte{0, 0, 0, 0})
		oks(t, d.Feed(fail(0)))
		was := d.Copy()
		wantNoCore(t, "wrong", d, c, api.ErrArg)
		wantUntouched(t, "wrong", d, was)
	}
}

// P16.1: the bounds of a configuration go.
func TestOpenBounds(t *testing.T) {
	most := config(16, 64, 256, 256)
	most.Log = api.LogConfig{Roll: 1<<24 - 65536, Step: 1 << 24}
	least := config(1, 1, 1, 1)
	least.Log = api.LogConfig{Roll: 1, Step: 1}
	for _, c := range []api.CoreConfig{least, most} {
		x := opened(t, fresh(t), c)
		if x.Config() != c {
			t.Errorf("Config: %v, want %v", x.Config(), c)
		}
		if n := len(x.Can()); n != c.Clients+c.Parts {
			t.Errorf("%d tasks", n)
		}
		wantProduced(t, "the last ones", x, c.Clients-1, produce(c.Parts-1, one()), 0)
		wantRecords(t, "the last one", x, c.Parts-1, 0, one())
		if _, e := x.Client(c.Clients); e != api.ErrArg {
			t.Errorf("a client more: %v", e)
		}
		if _, e := x.Part(c.Parts); e != api.ErrPart {
			t.Errorf("a partition more: %v", e)
		}
	}
}

// P16.1: a new core: all is idle, all marks are 0; each log has its name, and is made in order, each by two steps.
func TestOpenNew(t *testing.T) {
	for parts := 1; parts <= 16; parts++ {
		d := fresh(t)
		c := opened(t, d, config(parts, 3, 2, 2))
		var names []string
		for k := range parts {
			names = append(names, "p"+"abcdefghijklmnop"[k:k+1]+"-00000000000000")
			wantPart(t, "new", c, k, api.FlushIdle, 0, 0, 0)
			if p, _ := c.Part(k); p.Log != (api.LogState{Segments: 1}) {
				t.Errorf("new: %v", p.Log)
			}
			wantRecords(t, "new", c, k, 0)
		}
		if !slices.Equal(d.Names(), names) {
			t.Errorf("files: %v, want %v", d.Names(), names)
		}
		if n, _ := d.Steps(); n != 2*parts {
			t.Errorf("%d steps", n)
		}
		wantClients(t, "new", c, api.ClientIdle, api.ClientIdle, api.ClientIdle)
		wantCan(t, "new", c, "..................."[:3+parts])
		wantCounts(t, "new", c, 0, 0, 0)
	}
}

// P16.1: each mark is its log's end, wherever its log begins; what other files there are is not asked.
func TestOpenStanding(t *testing.T) {
	d := fresh(t)
	small := api.LogConfig{Roll: 1, Step: 1}
	for k, n := range []int{0, 3, 5} {
		l := logOn(t, d, []string{"pa", "pb", "pc"}[k], small)
		for i := range n {
			_, e := l.Append(some(2, 10*k+i)...)
			oks(t, e)
		}
		oks(t, l.Sync())
		if _, e := l.Drop(6); e != api.OK {
			t.Fatal(e)
		}
	}
	lay(t, d, "pd-00000000000000", []byte("no batch, but no log of this core"))
	lay(t, d, "p-00000000000000", nil)
	c := config(3, 1, 2, 2)
	c.Log = small
	p := both(t, d, c)
	for k, want := range []struct{ begin, mark int64 }{{0, 0}, {4, 6}, {6, 10}} {
		wantPart(t, "standing", p.core, k, api.FlushIdle, 0, 0, want.mark)
		var l []api.Record
		for i := want.begin / 2; i < want.mark/2; i++ {
			l = append(l, some(2, 10*k+int(i))...)
		}
		wantRecords(t, "standing", p.core, k, want.begin, l...)
		wantProduced(t, "standing", p.core, 0, produce(k, one()), want.mark)
	}
	wantCounts(t, "of this core alone", p.core, 3, 3, 3)
}

// P16.1: the logs are opened one behind the other: behind a fault at any step that error, and what was done ahead of it.
func TestOpenFaults(t *testing.T) {
	for _, f := range []struct {
		fate api.Fate
		e    api.Errno
	}{{fail(0), api.ErrDisk}, {full(9), api.ErrFull}} {
		for n := range 6 {
			d := fresh(t, behind(n, f.fate)...)
			wantNoCore(t, "fault", d, config(3, 1, 1, 1), f.e)
			if steps, _ := d.Steps(); steps != n+1 {
				t.Errorf("%d steps, want %d", steps, n+1)
			}
			if many := len(d.Names()); many != (n+1)/2 {
				t.Errorf("step %d: %d files", n, many)
			}
			c := opened(t, d, config(3, 1, 1, 1))
			wantProduced(t, "anew", c, 0, produce(2, one()), 0)
		}
		d := fresh(t, behind(6, f.fate)...)
		opened(t, d, config(3, 1, 1, 1))
	}
}

// P16.1: of logs that are wrong the first error; those ahead were opened, those behind were not.
func TestOpenWrongLogs(t *testing.T) {
	corrupt, torn := []byte{0, 0, 0, 0}, []byte{33}
	rows := []struct {
		what  string
		names []string
		bytes [][]byte
		want  api.Errno
		steps int
	}{
		{"corrupt, first", []string{"pa-00000000000000"}, [][]byte{corrupt}, api.ErrCorrupt, 0},
		{"corrupt, second", []string{"pb-00000000000000"}, [][]byte{corrupt}, api.ErrCorrupt, 2},
		{"corrupt, third", []string{"pc-00000000000000"}, [][]byte{corrupt}, api.ErrCorrupt, 4},
		{"torn ahead of the last", []string{"pb-00000000000000", "pb-00000000000001"}, [][]byte{torn, nil}, api.ErrTorn, 2},
		{"a gap", []string{"pb-00000000000000", "pb-00000000000001"}, [][]byte{nil, nil}, api.ErrGap, 2},
		{"a gap ahead of what is corrupt", []string{"pa-00000000000000", "pa-00000000000001", "pb-00000000000000"}, [][]byte{nil, nil, corrupt}, api.ErrGap, 0},
	}
	for _, row := range rows {
		d := fresh(t)
		for i, name := range row.names {
			lay(t, d, name, row.bytes[i])
		}
		was, _ := d.Steps()
		wantNoCore(t, row.what, d, config(3, 1, 1, 1), row.want)
		if n, _ := d.Steps(); n-was != row.steps {
			t.Errorf("%s: %d steps, want %d", row.what, n-was, row.steps)
		}
	}
	d := fresh(t)
	lay(t, d, "pb-00000000000000", torn)
	c := opened(t, d, config(2, 1, 1, 1))
	wantPart(t, "mended", c, 1, api.FlushIdle, 0, 0, 0)
	if f, e := d.File("pb-00000000000000"); f.Size != 0 || e != api.OK {
		t.Errorf("mended: %v %v", f, e)
	}
}

// P16.1, the document's examples 6 and 7: a crash ahead of the sync goes 34 ways, in the last of which the record is there; behind the sync it always is.
func TestOpenBehindCrash(t *testing.T) {
	for steps, want := range []int{1, 1, 34, 1, 1, 1} {
		d := fresh(t)
		c := opened(t, d, usual)
		wantBegun(t, "crash", c, 0, produce(0, one()))
		wantSteps(t, "crash", c, 2, steps)
		if n, e := stops.Count(d); n != int64(want) || e != api.OK {
			t.Errorf("%d steps: %d ways, want %d", steps, n, want)
		}
		at := 0
		for _, o := range stops.Images(d) {
			at++
			var l []api.Record
			if steps > 2 || steps == 2 && at == 34 {
				l = append(l, one())
			}
			next := opened(t, o, usual)
			wantRecords(t, "behind the crash", next, 0, 0, l...)
			wantPart(t, "behind the crash", next, 0, api.FlushIdle, 0, 0, int64(len(l)))
			wantClients(t, "behind the crash", next, api.ClientIdle, api.ClientIdle)
			wantCounts(t, "behind the crash", next, 0, 0, 0)
			wantProduced(t, "behind the crash", next, 1, produce(0, one()), int64(len(l)))
		}
	}
}

// P16.1: the core is on the disk that was handed in, not on a copy; its partitions are logs of layer 11 there.
func TestOpenKeepsDisk(t *testing.T) {
	d := fresh(t)
	c := opened(t, d, config(2, 1, 2, 2))
	wantProduced(t, "on the disk", c, 0, produce(1, some(2, 7)...), 0)
	l := logOn(t, d.Copy(), "pb", usual.Log)
	if got, e := l.Read(0, 2, 9); !sameRecords(got, some(2, 7)) || e != api.OK {
		t.Errorf("%v %v", got, e)
	}
	oks(t, d.Feed(fail(0)))
	wantBegun(t, "a fault", c, 0, produce(0, one()))
	wantSteps(t, "a fault", c, 1, 2)
	wantPart(t, "a fault", c, 0, api.FlushDead, 0, 0, 0)
	if s, e := partlog.Check(d, "pa"); s.End != 0 || e != api.OK {
		t.Errorf("%v %v", s, e)
	}
}

// P16.1: two cores, each on a disk of its own, go on apart.
func TestOpenApart(t *testing.T) {
	first, second := opened(t, fresh(t), usual), opened(t, fresh(t), usual)
	wantProduced(t, "first", first, 0, produce(0, one()), 0)
	wantBegun(t, "first", first, 1, produce(0, one()))
	wantPart(t, "second", second, 0, api.FlushIdle, 0, 0, 0)
	wantClients(t, "second", second, api.ClientIdle, api.ClientIdle)
	wantCounts(t, "second", second, 0, 0, 0)
}
