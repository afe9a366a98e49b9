package disk_test

import (
	"math"
	"slices"
	"testing"

	"millrace/api"
	"millrace/disk"
)

// P7.1: a disk without files, steps; as many fates as were fed.
func TestNew(t *testing.T) {
	for _, fates := range [][]api.Fate{nil, {}, {{}}, {fail(0)}, {full(-1)}, {{Keep: 7}, fail(math.MinInt), full(math.MaxInt), {}}, make([]api.Fate, 5000)} {
		d := fresh(t, fates...)
		wantFiles(t, "new", d)
		wantSteps(t, "new", d, 0, len(fates))
	}
}

// noFates are fates of no kind.
func noFates() []api.Fate {
	return []api.Fate{{Kind: -1}, {Kind: 3}, {Kind: math.MinInt}, {Kind: math.MaxInt}, {Kind: 1 << 32, Keep: 1}, {Kind: -2, Keep: -1}}
}

// P7.1: a fate of no kind, wherever it stands: no disk.
func TestNewRefused(t *testing.T) {
	for _, f := range noFates() {
		for _, l := range [][]api.Fate{{f}, {f, fail(1)}, {fail(1), f}, {{}, f, full(2)}, append(make([]api.Fate, 300), f)} {
			if d, e := disk.New(l...); d != nil || e != api.ErrArg {
				t.Errorf("%v: %v", l, e)
			}
		}
	}
}

// P7.1: the fates of New, then those of each Feed, in their order; behind the last one each step is good.
func TestFeed(t *testing.T) {
	d := fresh(t, fail(0), full(0), api.Fate{})
	oks(t, d.Feed(full(0), fail(0)), d.Feed(), d.Feed(nil...), d.Feed(fail(0)))
	wantSteps(t, "fed", d, 0, 6)
	for i, e := range []api.Errno{api.ErrDisk, api.ErrFull, api.OK, api.ErrFull, api.ErrDisk, api.ErrDisk, api.OK, api.OK, api.OK} {
		want(t, "step", d.SyncDir(), e)
		wantSteps(t, "step", d, i+1, max(0, 5-i))
	}
	oks(t, d.Feed(full(0)))
	wantSteps(t, "fed again", d, 9, 1)
	want(t, "fed again", d.SyncDir(), api.ErrFull)
	want(t, "behind it", d.SyncDir(), api.OK)
	wantSteps(t, "behind it", d, 11, 0)
}

// P7.1: fates that come while others are left, many times: none is lost, none comes twice.
func TestFeedBetween(t *testing.T) {
	d := fresh(t)
	var fed []api.Fate
	done := 0
	for i := range 500 {
		for j := range i % 4 {
			f := api.Fate{Kind: api.FateKind((i*7 + j*j) % 3)}
			fed = append(fed, f)
			oks(t, d.Feed(f))
		}
		for range i % 3 {
			e := api.OK
			if done < len(fed) {
				e = []api.Errno{api.OK, api.ErrDisk, api.ErrFull}[fed[done].Kind]
			} else {
				fed = append(fed, api.Fate{})
			}
			done++
			want(t, "step", d.SyncDir(), e)
			wantSteps(t, "step", d, done, len(fed)-done)
		}
	}
}

// P7.1: a fate of no kind, wherever it stands: none is fed.
func TestFeedRefused(t *testing.T) {
	d := fresh(t, full(0))
	for _, f := range noFates() {
		want(t, "alone", d.Feed(f), api.ErrArg)
		want(t, "first", d.Feed(f, fail(0)), api.ErrArg)
		want(t, "last", d.Feed(fail(0), fail(0), f), api.ErrArg)
		want(t, "between", d.Feed(api.Fate{}, f, api.Fate{}), api.ErrArg)
	}
	wantSteps(t, "refused", d, 0, 1)
	want(t, "its own", d.SyncDir(), api.ErrFull)
	want(t, "behind it", d.SyncDir(), api.OK)
}

// P7.1: what is handed in is not kept, and stays as it is.
func TestFatesNotKept(t *testing.T) {
	l := []api.Fate{fail(1), full(2), fail(3), full(4)}
	d := fresh(t, l[:2]...)
	l[0], l[1] = api.Fate{}, api.Fate{}
	oks(t, d.Feed(l[2:3]...))
	l[2] = api.Fate{}
	oks(t, d.Feed(fail(9)))
	if !slices.Equal(l, []api.Fate{{}, {}, {}, full(4)}) {
		t.Error(l)
	}
	for _, e := range []api.Errno{api.ErrDisk, api.ErrFull, api.ErrDisk, api.ErrDisk, api.OK} {
		want(t, "step", d.SyncDir(), e)
	}
}

// P7.1 to P7.6: a nil disk and a zero one at each call, whatever else is wrong.
func TestNoDisk(t *testing.T) {
	zero := func() *disk.Disk { return new(disk.Disk) }
	for what, d := range map[string]*disk.Disk{"nil": nil, "zero": zero()} {
		for call, do := range named() {
			for _, name := range []string{"a", "", "A", "zz"} {
				want(t, what+" "+call, do(d, name), api.ErrNil)
			}
		}
		want(t, what+" Feed", d.Feed(), api.ErrNil)
		want(t, what+" Feed", d.Feed(fail(0)), api.ErrNil)
		want(t, what+" Feed", d.Feed(noFates()...), api.ErrNil)
		want(t, what+" SyncDir", d.SyncDir(), api.ErrNil)
		for _, picks := range [][]int{nil, {0}, {1, 1}, {-1}} {
			if o, e := d.Crash(api.Stop{Picks: picks}); o != nil || e != api.ErrNil {
				t.Error(what, "Crash", e)
			}
		}
		if l := d.Names(); len(l) != 0 {
			t.Error(what, "Names", l)
		}
		all := d.All()
		if all == nil {
			t.Fatal(what, "All")
		}
		for f := range all {
			t.Error(what, "All", f)
		}
		wantSteps(t, what, d, 0, 0)
		if d.Copy() != nil {
			t.Error(what, "Copy")
		}
		if !d.Same(nil) || !d.Same(zero()) || !d.Same(d) || d.Same(fresh(t)) || fresh(t).Same(d) {
			t.Error(what, "Same")
		}
	}
}
