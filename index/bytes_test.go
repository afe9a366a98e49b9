package index_test

import (
	"math"
	"slices"
	"testing"

	"millrace/api"
	"millrace/index"
)

// P9.3: Bytes, byte by byte.
func TestBytes(t *testing.T) {
	for _, c := range []struct {
		x    *index.Index
		want []byte
	}{
		{indexOf(t, 1), []byte{1, 0, 0, 0, 0, 0, 0, 0}},
		{indexOf(t, maxStep), []byte{0, 0, 0, 1, 0, 0, 0, 0}},
		{indexOf(t, 0x010203, spot(0x11060504030201, 0x0a0b0c)), []byte{3, 2, 1, 0, 1, 0, 0, 0, 1, 2, 3, 4, 5, 6, 0x11, 0, 0x0c, 0x0b, 0x0a, 0}},
		{indexOf(t, 7, spot(0, 1), spot(256, 300), spot(api.MaxOffset, api.MaxSize)), []byte{7, 0, 0, 0, 3, 0, 0, 0,
			0, 0, 0, 0, 0, 0, 0, 0, 1, 0, 0, 0,
			0, 1, 0, 0, 0, 0, 0, 0, 44, 1, 0, 0,
			0, 0, 0, 0, 0, 0, 32, 0, 0, 0, 0, 1}},
	} {
		if b, e := c.x.Bytes(); !slices.Equal(b, c.want) || e != api.OK {
			t.Errorf("Bytes: %v %v, want %v", b, e, c.want)
		}
	}
}

// P9.3: more spots than one byte, and than two, can count.
func TestBytesMany(t *testing.T) {
	for _, n := range []int{255, 256, 257, 65535, 65536, 70000} {
		x := indexOf(t, 3)
		var spots []api.Spot
		for i := range n {
			s := spot(int64(i)*1000003, 3*i)
			spots = append(spots, s)
			x.Add(s)
		}
		wantSpots(t, "many", x, 3, spots...)
		wantRead(t, "many", 3, spots...)
	}
}

// P9.3: of a nil index and of a zero one.
func TestBytesNone(t *testing.T) {
	for what, x := range nones() {
		if b, e := x.Bytes(); len(b) != 0 || e != api.ErrNil {
			t.Errorf("%s: Bytes: %v %v", what, b, e)
		}
		if o := x.Copy(); o != nil {
			t.Errorf("%s: Copy: %v", what, o)
		}
	}
}

// P9.3: what Bytes answers is new memory, spare room included.
func TestBytesNew(t *testing.T) {
	x := example(t)
	one, _ := x.Bytes()
	two, _ := x.Bytes()
	for i := range one[:cap(one)] {
		one[:cap(one)][i] = 0xee
	}
	if !slices.Equal(two, bytesOf(10, 3, spot(0, 0), spot(5, 10), spot(9, 21))) {
		t.Errorf("another answer has changed: %v", two)
	}
	wantSpots(t, "written over", x, 10, spot(0, 0), spot(5, 10), spot(9, 21))
}

// P9.3: Read of the bytes of indexes that may be, at the edges.
func TestRead(t *testing.T) {
	for _, step := range []int{1, 2, 10, 255, 256, 65536, maxStep - 1, maxStep} {
		wantRead(t, "no spots", step)
		wantRead(t, "first", step, spot(0, 0))
		wantRead(t, "any place", step, spot(0, 1))
		wantRead(t, "greatest", step, spot(api.MaxOffset, api.MaxSize))
		wantRead(t, "the step behind", step, spot(0, 0), spot(1, step))
		wantRead(t, "up to the greatest", step, spot(3, api.MaxSize-step), spot(api.MaxOffset, api.MaxSize))
	}
	wantRead(t, "more than the step behind", 10, spot(0, 5), spot(1, 15), spot(2, 26), spot(1000, 1000))
}

// P9.3: what was read goes on as what was written.
func TestReadGoesOn(t *testing.T) {
	x, e := index.Read(bytesOf(10, 2, spot(4, 3), spot(5, 13)))
	if e != api.OK {
		t.Fatal(e)
	}
	wantAdd(t, x, spot(5, 30), false, api.ErrArg)
	wantAdd(t, x, spot(6, 13), false, api.ErrArg)
	wantAdd(t, x, spot(6, 22), false, api.OK)
	wantAdd(t, x, spot(6, 23), true, api.OK)
	wantFind(t, "read", x, 5, spot(5, 13), true)
	wantAt(t, "read", x, 12, spot(4, 3), true)
	wantCut(t, "read", x, 13, 2)
	wantSpots(t, "read", x, 10, spot(4, 3))
}

// P9.3: Read of each beginning, and of bytes more.
func TestReadCut(t *testing.T) {
	for _, spots := range [][]api.Spot{nil, {spot(0, 0)}, {spot(1, 0), spot(2, 10), spot(3, 20)}} {
		b := bytesOf(10, uint64(len(spots)), spots...)
		for i := range b {
			wantRefused(t, "cut", b[:i])
		}
		for _, more := range [][]byte{{0}, {1}, make([]byte, 3), make([]byte, 4), make([]byte, 8), make([]byte, 12)} {
			wantRefused(t, "more", append(slices.Clone(b), more...))
		}
		far := bytesOf(10, uint64(len(spots)), append(slices.Clone(spots), spot(99, 99))...)
		wantRefused(t, "a spot more than it counts", far)
		wantRefused(t, "a spot fewer than it counts", bytesOf(10, uint64(len(spots)+1), spots...))
	}
	wantRefused(t, "nil", nil)
	wantRefused(t, "empty", []byte{})
}

// P9.3: Read of steps and counts that may not be.
func TestReadHead(t *testing.T) {
	for _, step := range []uint64{0, maxStep + 1, 1 << 25, 1 << 31, 1<<32 - 1} {
		wantRefused(t, "step", bytesOf(step, 0))
		wantRefused(t, "step", bytesOf(step, 1, spot(0, 0)))
	}
	for _, count := range []uint64{1, 2, 1 << 16, 1 << 24, 1 << 30, 1 << 31, 1<<32 - 1, 0x55555555, 0x55555556} {
		wantRefused(t, "count", bytesOf(10, count))
	}
	for _, count := range []uint64{0, 2, 3, 1 << 30, 1<<30 + 1, 1<<31 + 1, 1<<32 - 1, 0x55555556} {
		wantRefused(t, "count", bytesOf(10, count, spot(0, 0)))
	}
}

// P9.3: Read of spots that may not be, wherever they stand.
func TestReadSpots(t *testing.T) {
	for _, bad := range []api.Spot{
		spot(api.MaxOffset+1, 500), spot(-1, 500), spot(math.MinInt64, 500), spot(1<<62, 500),
		spot(500, api.MaxSize+1), spot(500, 1<<31), spot(500, 1<<32-1), spot(500, 1<<25),
	} {
		wantRefused(t, "alone", bytesOf(10, 1, bad))
		wantRefused(t, "first", bytesOf(10, 2, bad, spot(api.MaxOffset, api.MaxSize)))
		wantRefused(t, "last", bytesOf(10, 2, spot(0, 0), bad))
		wantRefused(t, "between", bytesOf(10, 3, spot(0, 0), bad, spot(api.MaxOffset, api.MaxSize)))
	}
	for what, l := range map[string][]api.Spot{
		"the same offset":     {spot(3, 0), spot(3, 10)},
		"an offset that fell": {spot(3, 0), spot(2, 10)},
		"the same place":      {spot(3, 10), spot(4, 10)},
		"a place that fell":   {spot(3, 20), spot(4, 10)},
		"the same spot":       {spot(3, 10), spot(3, 10)},
		"nearer than a step":  {spot(3, 10), spot(4, 19)},
		"just behind":         {spot(3, 10), spot(4, 11)},
		"near in the middle":  {spot(3, 10), spot(4, 20), spot(5, 29), spot(6, 40)},
		"near at the end":     {spot(3, 10), spot(4, 20), spot(5, 29)},
		"falls at the end":    {spot(3, 10), spot(4, 20), spot(4, 30)},
	} {
		wantRefused(t, what, bytesOf(10, uint64(len(l)), l...))
	}
}

// P9.3: Read neither changes nor keeps what it is handed, spare room included.
func TestReadKeepsNothing(t *testing.T) {
	room := append(bytesOf(10, 2, spot(4, 3), spot(5, 13)), 1, 2, 3, 4, 5, 6, 7, 8, 9, 10, 11, 12)
	was := slices.Clone(room)
	b := room[: len(room)-12 : len(room)]
	x, e := index.Read(b)
	if e != api.OK {
		t.Fatal(e)
	}
	x.Add(spot(6, 30))
	x.Cut(0)
	x.Add(spot(7, 40))
	if !slices.Equal(room, was) {
		t.Errorf("changed: %v", room)
	}
	x, _ = index.Read(b)
	for i := range room {
		room[i] = 0xee
	}
	wantSpots(t, "kept", x, 10, spot(4, 3), spot(5, 13))
	one, _ := index.Read(was[:32])
	two, _ := index.Read(was[:32])
	one.Cut(0)
	one.Add(spot(99, 99))
	wantSpots(t, "read twice", two, 10, spot(4, 3), spot(5, 13))
}

// P9.3: a copy is the same, and each goes on apart.
func TestCopy(t *testing.T) {
	spots := []api.Spot{spot(0, 0), spot(5, 10), spot(9, 21)}
	x := example(t)
	o := x.Copy()
	wantSpots(t, "copy", o, 10, spots...)
	wantAdd(t, x, spot(10, 31), true, api.OK)
	wantSpots(t, "Add to the one", o, 10, spots...)
	wantAdd(t, o, spot(20, 40), true, api.OK)
	wantSpots(t, "Add to the copy", x, 10, append(slices.Clone(spots), spot(10, 31))...)
	wantSpots(t, "Add to both", o, 10, append(slices.Clone(spots), spot(20, 40))...)
	o = x.Copy()
	wantCut(t, "the one", x, 0, 4)
	wantAdd(t, x, spot(77, 77), true, api.OK)
	wantSpots(t, "Cut of the one", o, 10, append(slices.Clone(spots), spot(10, 31))...)
	wantCut(t, "the copy", o, 10, 3)
	wantAdd(t, o, spot(2, 12), true, api.OK)
	wantSpots(t, "Cut of the copy", x, 10, spot(77, 77))
	wantSpots(t, "Cut of both", o, 10, spot(0, 0), spot(2, 12))
	empty := indexOf(t, 4)
	c := empty.Copy()
	if c == nil || c == empty {
		t.Fatal("a copy of an index without spots is another one")
	}
	wantAdd(t, empty, spot(1, 1), true, api.OK)
	wantSpots(t, "of no spots", c, 4)
}
