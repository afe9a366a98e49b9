package disk_test

import (
	"bytes"
	"fmt"
	"math"
	"testing"

	"millrace/api"
	"millrace/disk"
)

// P7.3: the bytes stand at its end, and do not last.
func TestAppend(t *testing.T) {
	d := fresh(t)
	oks(t, d.Create("a"), d.Create("b"), d.Append("a", []byte("xyz")), d.Append("b", []byte{0, 255}), d.Append("a", nil), d.Append("a", []byte{}), d.Append("a", []byte("uv")))
	wantFiles(t, "appended", d, state{"a", "xyzuv", 0, true, false}, state{"b", "\x00\xff", 0, true, false})
	wantSteps(t, "appended", d, 7, 0)
	oks(t, d.Sync("a"), d.Append("a", []byte("w")))
	wantFiles(t, "behind a sync", d, state{"a", "xyzuvw", 5, true, false}, state{"b", "\x00\xff", 0, true, false})
}

// P7.3: not good: the first Keep bytes stand, and do not last.
func TestAppendFates(t *testing.T) {
	for _, x := range []struct {
		keep int
		b    string
		want string
	}{
		{0, "uvw", "xyz"}, {1, "uvw", "xyzu"}, {2, "uvw", "xyzuv"}, {3, "uvw", "xyzuvw"}, {4, "uvw", "xyzuvw"}, {math.MaxInt, "uvw", "xyzuvw"},
		{-1, "uvw", "xyz"}, {math.MinInt, "uvw", "xyz"}, {0, "", "xyz"}, {1, "", "xyz"}, {-1, "", "xyz"}, {math.MaxInt, "", "xyz"}, {1 << 32, "u", "xyzu"},
	} {
		for kind, e := range []api.Errno{api.OK, api.ErrDisk, api.ErrFull} {
			what := fmt.Sprint(x, kind)
			d := fresh(t)
			oks(t, d.Create("a"), d.Append("a", []byte("xyz")), d.Sync("a"), d.Feed(api.Fate{Kind: api.FateKind(kind), Keep: x.keep}))
			want(t, what, d.Append("a", []byte(x.b)), e)
			stands := x.want
			if e == api.OK {
				stands = "xyz" + x.b
			}
			wantFiles(t, what, d, state{"a", stands, 3, true, false})
			wantSteps(t, what, d, 4, 0)
			oks(t, d.Append("a", []byte("!")))
			wantFiles(t, what+", goes on", d, state{"a", stands + "!", 3, true, false})
		}
	}
}

// P7.3: MaxSize bytes go, one more does not, in one go and in pieces; what is refused takes no fate.
func TestMaxSize(t *testing.T) {
	most := make([]byte, api.MaxSize+1)
	d := fresh(t)
	oks(t, d.Create("a"), d.Create("b"), d.Create("c"), d.Feed(fail(1)))
	want(t, "one more, in one go", d.Append("a", most), api.ErrFull)
	wantFile(t, "refused", d, state{name: "a", there: true})
	wantSteps(t, "refused", d, 3, 1)
	want(t, "the fate is left", d.Append("a", most[:api.MaxSize]), api.ErrDisk)
	wantFile(t, "not good", d, state{"a", "\x00", 0, true, false})
	want(t, "one more", d.Append("a", most[:api.MaxSize]), api.ErrFull)
	oks(t, d.Append("a", most[:api.MaxSize-1]), d.Append("a", nil))
	want(t, "one more behind", d.Append("a", most[:1]), api.ErrFull)
	want(t, "many more behind", d.Append("a", most), api.ErrFull)
	if f, e := d.File("a"); f.Size != api.MaxSize || e != api.OK {
		t.Error(f, e)
	}
	oks(t, d.Append("b", most[:api.MaxSize]))
	want(t, "one more behind", d.Append("b", most[:1]), api.ErrFull)
	oks(t, d.Append("c", most[:1]), d.Cut("b", api.MaxSize-1), d.Append("b", []byte{9}))
	want(t, "full again", d.Append("b", most[:1]), api.ErrFull)
	if b, e := d.Read("b", api.MaxSize-2, 5); !bytes.Equal(b, []byte{0, 9}) || e != api.OK {
		t.Error(b, e)
	}
}

// P7.3: a file that is full is not a disk that is: a fate that is FateFull keeps bytes, a refusal none.
func TestAppendBothFull(t *testing.T) {
	d := fresh(t)
	oks(t, d.Create("a"), d.Append("a", make([]byte, api.MaxSize-2)), d.Feed(full(1), full(7)))
	want(t, "refused", d.Append("a", []byte("xyz")), api.ErrFull)
	wantSteps(t, "refused", d, 2, 2)
	want(t, "a step", d.Append("a", []byte("xy")), api.ErrFull)
	wantSteps(t, "a step", d, 3, 1)
	if b, e := d.Read("a", api.MaxSize-3, 9); string(b) != "\x00x" || e != api.OK {
		t.Error(b, e)
	}
}

// P7.3: what is handed in is not kept, and stays as it is, its spare room too.
func TestAppendNotKept(t *testing.T) {
	d := fresh(t)
	room := []byte("xyz....")
	oks(t, d.Create("a"), d.Append("a", room[:3]), d.Append("a", []byte("uv")))
	if string(room) != "xyz...." {
		t.Errorf("%q", room)
	}
	clear(room)
	wantFiles(t, "not kept", d, state{"a", "xyzuv", 0, true, false})
}

// P7.3: it has its first bytes, and of these those last that did.
func TestCut(t *testing.T) {
	for size, x := range []struct {
		want  string
		lasts int
	}{{"", 0}, {"x", 1}, {"xy", 2}, {"xyz", 3}, {"xyzu", 3}, {"xyzuv", 3}} {
		d := written(t)
		oks(t, d.Create("b"), d.Append("b", []byte("q")), d.Cut("a", size))
		b := state{"b", "q", 0, true, false}
		wantFiles(t, "cut", d, state{"a", x.want, x.lasts, true, false}, b)
		oks(t, d.Append("a", []byte("!!")))
		wantFiles(t, "goes on", d, state{"a", x.want + "!!", x.lasts, true, false}, b)
		oks(t, d.Sync("a"))
		wantFiles(t, "lasts", d, state{"a", x.want + "!!", size + 2, true, false}, b)
		wantSteps(t, "all", d, 9, 0)
	}
}

// P7.3: what was cut off is gone behind each crash, though it lasted.
func TestCutCrash(t *testing.T) {
	d := written(t)
	oks(t, d.SyncDir(), d.Cut("a", 1), d.Append("a", []byte("q")))
	wantFiles(t, "least", crashed(t, d), state{"a", "x", 1, true, true})
	wantFiles(t, "most", crashed(t, d, 1), state{"a", "xq", 2, true, true})
	oks(t, d.Remove("a"))
	wantFiles(t, "may come back", d, state{"a", "x", 1, false, true})
}

// cutSizes are sizes that are not there of a file of 5 bytes.
func cutSizes() []int { return []int{-1, -2, 6, 7, math.MinInt, math.MaxInt, 1 << 32} }

// P7.3: sizes below 0, and past the end; they take no fate.
func TestCutRange(t *testing.T) {
	d := written(t)
	oks(t, d.Feed(fail(0)))
	for _, size := range cutSizes() {
		want(t, fmt.Sprint(size), d.Cut("a", size), api.ErrRange)
	}
	wantFiles(t, "refused", d, state{"a", "xyzuv", 3, true, false})
	wantSteps(t, "refused", d, 4, 1)
	want(t, "its fate", d.Cut("a", 5), api.ErrDisk)
	oks(t, d.Cut("a", 5), d.Cut("a", 0), d.Cut("a", 0))
	want(t, "one past none", d.Cut("a", 1), api.ErrRange)
	wantFiles(t, "cut", d, state{name: "a", there: true})
}

// P7.3: not good: nothing has changed, whatever Keep is.
func TestCutFates(t *testing.T) {
	for _, f := range []api.Fate{fail(0), fail(1), full(4), full(-1), fail(math.MaxInt)} {
		for size := range 6 {
			d := written(t)
			oks(t, d.Feed(f))
			want(t, "not good", d.Cut("a", size), map[api.FateKind]api.Errno{api.FateFail: api.ErrDisk, api.FateFull: api.ErrFull}[f.Kind])
			wantFiles(t, "not good", d, state{"a", "xyzuv", 3, true, false})
			wantSteps(t, "not good", d, 5, 0)
		}
	}
}

// P7.3: a disk and its copy, cut and gone on with apart, over one another's bytes.
func TestCutApart(t *testing.T) {
	d := written(t)
	o := d.Copy()
	left := crashed(t, d, 1, 2)
	for i, x := range []*disk.Disk{d, o, left} {
		oks(t, x.Cut("a", i+1), x.Append("a", bytes.Repeat([]byte{byte('0' + i)}, 3)))
	}
	wantFiles(t, "disk", d, state{"a", "x000", 1, true, false})
	wantFiles(t, "copy", o, state{"a", "xy111", 2, true, false})
	wantFiles(t, "left", left, state{"a", "xyz222", 3, true, true})
}
