package disk_test

import (
	"fmt"
	"math"
	"testing"

	"millrace/api"
)

// P7.4: all its bytes last; no other file's, and no name.
func TestSync(t *testing.T) {
	d := written(t)
	b := state{"b", "q", 0, true, false}
	oks(t, d.Create("b"), d.Append("b", []byte("q")), d.Sync("a"))
	wantFiles(t, "synced", d, state{"a", "xyzuv", 5, true, false}, b)
	oks(t, d.Sync("a"), d.Append("a", []byte("w")))
	wantFiles(t, "goes on", d, state{"a", "xyzuvw", 5, true, false}, b)
	oks(t, d.Sync("b"))
	wantFiles(t, "the other", d, state{"a", "xyzuvw", 5, true, false}, state{"b", "q", 1, true, false})
	wantSteps(t, "all", d, 10, 0)
}

// P7.4: not good: of those that do not last the first Keep do.
func TestSyncFates(t *testing.T) {
	for _, x := range []struct{ keep, lasts int }{
		{-1, 3}, {math.MinInt, 3}, {0, 3}, {1, 4}, {2, 5}, {3, 5}, {5, 5}, {6, 5}, {math.MaxInt, 5}, {math.MaxInt - 1, 5}, {1 << 32, 5},
	} {
		for kind, e := range []api.Errno{api.OK, api.ErrDisk, api.ErrFull} {
			what := fmt.Sprint(x, kind)
			d := written(t)
			oks(t, d.Feed(api.Fate{Kind: api.FateKind(kind), Keep: x.keep}))
			want(t, what, d.Sync("a"), e)
			lasts := x.lasts
			if e == api.OK {
				lasts = 5
			}
			wantFiles(t, what, d, state{"a", "xyzuv", lasts, true, false})
			wantSteps(t, what, d, 5, 0)
		}
	}
}

// P7.4: one that fails behind another: each lets its bytes last behind those that do.
func TestSyncPiecewise(t *testing.T) {
	d := fresh(t)
	oks(t, d.Create("a"), d.Append("a", []byte("abcdef")), d.Feed(fail(1), full(2), fail(0), full(-3), fail(9)))
	for i, lasts := range []int{1, 3, 3, 3, 6, 6} {
		d.Sync("a")
		wantFiles(t, fmt.Sprint(i), d, state{"a", "abcdef", lasts, true, false})
	}
}

// P7.4: the names of all files last, none may come back any more; no byte lasts by it.
func TestSyncDir(t *testing.T) {
	d := removed(t)
	oks(t, d.Create("b"), d.Append("b", []byte("q")), d.Create("c"))
	wantFiles(t, "ahead", d, state{"a", "xyz", 3, false, true}, state{"b", "q", 0, true, false}, state{"c", "", 0, true, false})
	oks(t, d.SyncDir())
	wantFiles(t, "behind", d, state{"b", "q", 0, true, true}, state{"c", "", 0, true, true})
	oks(t, d.Create("d"), d.Remove("c"))
	wantFiles(t, "goes on", d, state{"b", "q", 0, true, true}, state{"c", "", 0, false, true}, state{"d", "", 0, true, false})
	oks(t, d.SyncDir(), d.SyncDir())
	wantFiles(t, "twice", d, state{"b", "q", 0, true, true}, state{"d", "", 0, true, true})
	wantSteps(t, "all", d, 14, 0)
	none := fresh(t)
	oks(t, none.SyncDir())
	wantFiles(t, "no files", none)
	wantSteps(t, "no files", none, 1, 0)
}

// P7.4: not good: nothing has changed, whatever Keep is.
func TestSyncDirFates(t *testing.T) {
	d := removed(t)
	oks(t, d.Create("b"), d.Append("b", []byte("q")), d.Feed(fail(0), full(1), fail(-1), full(math.MaxInt)))
	for i, e := range []api.Errno{api.ErrDisk, api.ErrFull, api.ErrDisk, api.ErrFull} {
		want(t, "not good", d.SyncDir(), e)
		wantFiles(t, "not good", d, state{"a", "xyz", 3, false, true}, state{"b", "q", 0, true, false})
		wantSteps(t, "not good", d, 9+i, 3-i)
	}
	want(t, "may come back still", d.Create("a"), api.ErrThere)
	oks(t, d.SyncDir())
	wantFiles(t, "good", d, state{"b", "q", 0, true, true})
}
