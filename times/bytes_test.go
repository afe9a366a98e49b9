package times_test

import (
	"bytes"
	"slices"
	"testing"

	"millrace/api"
	"millrace/times"
)

// P12.5: Bytes, byte by byte.
func TestBytes(t *testing.T) {
	for _, c := range []struct {
		x    *times.Index
		want []byte
	}{
		{indexOf(t, 0), make([]byte, 20)},
		{indexOf(t, 0x0807060504), []byte{4, 5, 6, 7, 8, 0, 0, 0, 4, 5, 6, 7, 8, 0, 0, 0, 0, 0, 0, 0}},
		{indexOf(t, 255, 0x11060504030201, 3), []byte{255, 0, 0, 0, 0, 0, 0, 0, 1, 1, 0, 0, 0, 0, 0, 0, 1, 0, 0, 0,
			255, 0, 0, 0, 0, 0, 0, 0, 1, 2, 3, 4, 5, 6, 0x11, 0}},
		{indexOf(t, maxOffset-1, 0, maxTime), []byte{255, 255, 255, 255, 255, 255, 31, 0, 1, 0, 0, 0, 0, 0, 32, 0, 2, 0, 0, 0,
			255, 255, 255, 255, 255, 255, 31, 0, 0, 0, 0, 0, 0, 0, 0, 0,
			0, 0, 0, 0, 0, 0, 32, 0, 0, 0, 0, 0, 0, 0, 32, 0}},
	} {
		if b := c.x.Bytes(); !slices.Equal(b, c.want) {
			t.Errorf("Bytes: %v, want %v", b, c.want)
		}
	}
}

// P12.5: of a nil index and of a zero one.
func TestBytesNone(t *testing.T) {
	for what, x := range nones() {
		if b := x.Bytes(); len(b) != 0 {
			t.Errorf("%s: Bytes: %v", what, b)
		}
	}
}

// P12.5: what Bytes answers is new memory, spare room included.
func TestBytesNew(t *testing.T) {
	x := example(t)
	one, two := x.Bytes(), x.Bytes()
	for i := range one[:cap(one)] {
		one[:cap(one)][i] = 0xee
	}
	if !slices.Equal(two, bytesOf(10, 15, 2, rise(10, 5), rise(13, 9))) {
		t.Errorf("another answer has changed: %v", two)
	}
	wantIndex(t, "written over", x, 10, 15, rise(10, 5), rise(13, 9))
}

// P12.5: Open of the bytes of indexes that may be, at the edges.
func TestOpen(t *testing.T) {
	for _, base := range []int64{0, 1, 255, 1 << 40, maxOffset - 1, maxOffset} {
		wantOpened(t, "no records", base, base)
		wantOpened(t, "one of time 0", base, base+1, rise(base, 0))
		wantOpened(t, "one of the greatest time", base, base+1, rise(base, maxTime))
		wantOpened(t, "up to the last offset", base, maxOffset+1, rise(base, 7))
	}
	wantOpened(t, "next to one another", 4, 7, rise(4, 0), rise(5, 1), rise(6, 2))
	wantOpened(t, "far from one another", 0, maxOffset+1, rise(0, 0), rise(1000, 1), rise(maxOffset, maxTime))
	wantOpened(t, "records behind the last rise", 4, 99, rise(4, 8), rise(9, 9))
}

// P12.5: as many rises as go, and one more.
func TestOpenMany(t *testing.T) {
	var rises []api.Rise
	for i := range int64(maxRises + 1) {
		rises = append(rises, rise(3+2*i, 5*i))
	}
	for _, n := range []int{255, 256, 257, maxRises - 1, maxRises} {
		wantOpened(t, "many", 3, 1<<30, rises[:n]...)
	}
	whole := bytesOf(3, 1<<30, maxRises+1, rises...)
	wantRefused(t, "one more", whole, api.ErrTimes)
	for _, n := range []int{20, 21, 36, len(whole) - 16, len(whole) - 1} {
		wantRefused(t, "a beginning of one more", whole[:n], api.ErrTimes)
	}
	most := bytesOf(3, 1<<30, maxRises, rises[:maxRises]...)
	for _, n := range []int{0, 19, 20, 36, len(most) - 16, len(most) - 1} {
		wantRefused(t, "a beginning of the most", most[:n], api.ErrMore)
	}
}

// P12.5: each beginning is ErrMore, with a byte more it is ErrTimes.
func TestOpenCut(t *testing.T) {
	for _, l := range [][]int64{nil, {0}, {5, 3, 5, 9, 1}, {1, 2, 3, 4, 5}} {
		b := indexOf(t, 10, l...).Bytes()
		for i := range b {
			wantRefused(t, "cut", b[:i], api.ErrMore)
		}
		for _, more := range [][]byte{{0}, {1}, make([]byte, 8), make([]byte, 15), make([]byte, 16), make([]byte, 32)} {
			wantRefused(t, "more", append(slices.Clone(b), more...), api.ErrTimes)
		}
	}
	wantRefused(t, "nil", nil, api.ErrMore)
	wantRefused(t, "empty", []byte{}, api.ErrMore)
}

// P12.5: too few bytes are told ahead of all that is wrong in them, too great a count ahead of too few bytes.
func TestOpenOrder(t *testing.T) {
	for n := range 20 {
		wantRefused(t, "ff", bytes.Repeat([]byte{255}, n), api.ErrMore)
	}
	wantRefused(t, "ff", bytes.Repeat([]byte{255}, 20), api.ErrTimes)
	wantRefused(t, "ff", bytes.Repeat([]byte{255}, 21), api.ErrTimes)
	for _, count := range []uint64{1, 2, 255, maxRises - 1, maxRises} {
		wantRefused(t, "a base that may not be", bytesOf(1<<63, 5, count), api.ErrMore)
		wantRefused(t, "an end that may not be", bytesOf(7, 6, count), api.ErrMore)
		wantRefused(t, "no records", bytesOf(7, 7, count), api.ErrMore)
	}
	for _, count := range []uint64{maxRises + 1, 1 << 17, 1 << 28, 1 << 30, 1 << 31, 1<<32 - 1, 1<<28 + 1} {
		wantRefused(t, "count", bytesOf(7, 7, count), api.ErrTimes)
		wantRefused(t, "count", bytesOf(7, 8, count, rise(7, 1)), api.ErrTimes)
		wantRefused(t, "count", bytesOf(7, 8, count, rise(7, 1))[:30], api.ErrTimes)
	}
	wantRefused(t, "a wrong rise, and too few", bytesOf(7, 9, 3, rise(-1, -1), rise(-1, -1)), api.ErrMore)
	wantRefused(t, "a byte too few", bytesOf(7, 9, 2, rise(-1, -1), rise(-1, -1))[:51], api.ErrMore)
	wantRefused(t, "all of them", bytesOf(7, 9, 2, rise(-1, -1), rise(-1, -1)), api.ErrTimes)
}

// P12.5: bases and ends that no index has.
func TestOpenEnds(t *testing.T) {
	for _, base := range []uint64{maxOffset + 1, maxOffset + 2, 1 << 62, 1 << 63, 1<<64 - 1} {
		wantRefused(t, "base", bytesOf(base, base, 0), api.ErrTimes)
		wantRefused(t, "base", bytesOf(base, base+1, 1, rise(int64(base), 1)), api.ErrTimes)
		wantRefused(t, "base", bytesOf(base, maxOffset+1, 0), api.ErrTimes)
		wantRefused(t, "base", bytesOf(base, 5, 1, rise(0, 1)), api.ErrTimes)
	}
	for _, end := range []uint64{0, 1, 9, maxOffset + 2, 1 << 62, 1 << 63, 1<<64 - 1} {
		wantRefused(t, "end", bytesOf(10, end, 0), api.ErrTimes)
		wantRefused(t, "end", bytesOf(10, end, 1, rise(10, 1)), api.ErrTimes)
	}
	wantRefused(t, "records, and no rise", bytesOf(10, 11, 0), api.ErrTimes)
	wantRefused(t, "records, and no rise", bytesOf(0, maxOffset+1, 0), api.ErrTimes)
	wantRefused(t, "a rise, and no records", bytesOf(10, 10, 1, rise(10, 1)), api.ErrTimes)
	wantRefused(t, "a rise, and no records", bytesOf(10, 10, 1, rise(9, 1)), api.ErrTimes)
}

// P12.5: rises that no records make, wherever they stand.
func TestOpenRises(t *testing.T) {
	for what, l := range map[string][]api.Rise{
		"the first one behind the base":   {rise(11, 1)},
		"the first one ahead of the base": {rise(9, 1)},
		"one ahead of the base, then it":  {rise(9, 0), rise(10, 1)},
		"at the end":                      {rise(10, 1), rise(20, 2)},
		"behind the end":                  {rise(10, 1), rise(21, 2)},
		"the same offset":                 {rise(10, 1), rise(10, 2)},
		"the same offset behind others":   {rise(10, 1), rise(12, 2), rise(12, 3)},
		"an offset that fell":             {rise(10, 1), rise(13, 2), rise(12, 3)},
		"an offset that fell to the base": {rise(10, 1), rise(13, 2), rise(10, 3)},
		"the same time":                   {rise(10, 1), rise(12, 1)},
		"the same time behind others":     {rise(10, 1), rise(12, 2), rise(13, 2)},
		"a time that fell":                {rise(10, 2), rise(12, 1)},
		"a time that fell behind others":  {rise(10, 1), rise(12, 7), rise(13, 6), rise(14, 9)},
		"a time below 0":                  {rise(10, -1)},
		"the least time":                  {rise(10, -1<<63)},
		"a time too great":                {rise(10, maxTime+1)},
		"a time too great at the end":     {rise(10, 1), rise(11, maxTime+1)},
		"a time too great in the middle":  {rise(10, 1), rise(11, maxTime+1), rise(12, maxTime+2)},
		"an offset below 0":               {rise(10, 1), rise(-1, 2)},
		"an offset too great":             {rise(10, 1), rise(maxOffset+1, 2)},
		"the greatest numbers":            {rise(10, 1), rise(1<<63-1, 1<<63-1)},
	} {
		wantRefused(t, what, bytesOf(10, 20, uint64(len(l)), l...), api.ErrTimes)
	}
}

// P12.5: what was opened goes on as what was written.
func TestOpenGoesOn(t *testing.T) {
	x, e := times.Open(bytesOf(10, 15, 2, rise(10, 5), rise(13, 9)))
	if e != api.OK {
		t.Fatal(e)
	}
	wantSame(t, "opened", x, example(t), true)
	wantErr(t, "Put", x.Put(records(9, 10)...), api.OK)
	wantIndex(t, "Put", x, 10, 17, rise(10, 5), rise(13, 9), rise(16, 10))
	wantErr(t, "Cut", x.Cut(13), api.OK)
	wantErr(t, "Join", x.Join(indexOf(t, 13, 6)), api.OK)
	wantIndex(t, "Join", x, 10, 14, rise(10, 5), rise(13, 6))
	none, e := times.Open(make([]byte, 20))
	if e != api.OK {
		t.Fatal(e)
	}
	wantSame(t, "no records", none, indexOf(t, 0), true)
	wantErr(t, "Put", none.Put(records(0)...), api.OK)
	wantIndex(t, "Put", none, 0, 1, rise(0, 0))
}

// P12.5: Open neither changes nor keeps what it is handed, spare room included.
func TestOpenKeepsNothing(t *testing.T) {
	room := append(bytesOf(10, 15, 2, rise(10, 5), rise(13, 9)), 1, 2, 3, 4, 5, 6, 7, 8, 9, 10, 11, 12, 13, 14, 15, 16)
	was := slices.Clone(room)
	b := room[: len(room)-16 : len(room)]
	x, e := times.Open(b)
	if e != api.OK {
		t.Fatal(e)
	}
	x.Put(records(99)...)
	x.Cut(10)
	x.Put(records(44)...)
	if !slices.Equal(room, was) {
		t.Errorf("changed: %v", room)
	}
	x, _ = times.Open(b)
	y, _ := times.Open(b)
	for i := range room {
		room[i] = 0xee
	}
	wantIndex(t, "kept", x, 10, 15, rise(10, 5), rise(13, 9))
	x.Cut(10)
	x.Put(records(44)...)
	wantIndex(t, "opened twice", y, 10, 15, rise(10, 5), rise(13, 9))
}
