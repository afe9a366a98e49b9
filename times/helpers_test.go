package times_test

import (
	"math"
	"slices"
	"testing"

	"millrace/api"
	"millrace/times"
)

// The bounds of the document, as numbers.
const (
	maxTime   = 1 << 53
	maxOffset = 1 << 53
	maxRises  = 1 << 16
)

// rise is an offset with its time.
func rise(offset, time int64) api.Rise { return api.Rise{Offset: offset, Time: time} }

// records are records of these times.
func records(l ...int64) []api.Record {
	var out []api.Record
	for i, n := range l {
		out = append(out, api.Record{Time: n, Key: make([]byte, i%3), Value: make([]byte, i%5)})
	}
	return out
}

// span is the times from from on, n of them, each one above the one ahead.
func span(from int64, n int) []int64 {
	l := make([]int64, n)
	for i := range l {
		l[i] = from + int64(i)
	}
	return l
}

// indexOf is an index from base on of records of these times.
func indexOf(t *testing.T, base int64, l ...int64) *times.Index {
	t.Helper()
	x, e := times.New(base)
	if x == nil || e != api.OK {
		t.Fatalf("New(%d): %v %v", base, x, e)
	}
	if e := x.Put(records(l...)...); e != api.OK {
		t.Fatalf("Put: %v", e)
	}
	return x
}

// example is the chapter's index.
func example(t *testing.T) *times.Index {
	t.Helper()
	return indexOf(t, 10, 5, 3, 5, 9, 1)
}

// nones are a nil index and a zero one.
func nones() map[string]*times.Index {
	return map[string]*times.Index{"nil": nil, "zero": {}}
}

// wantIndex asks all calls that tell of an index for this base, this end and these rises.
func wantIndex(t *testing.T, what string, x *times.Index, base, end int64, rises ...api.Rise) {
	t.Helper()
	if got := x.Base(); got != base {
		t.Errorf("%s: Base: %d, want %d", what, got, base)
	}
	if got := x.End(); got != end {
		t.Errorf("%s: End: %d, want %d", what, got, end)
	}
	if got := x.Rises(); !slices.Equal(got, rises) {
		t.Errorf("%s: Rises: %s, want %s", what, short(got), short(rises))
	}
	if got := slices.Collect(x.All()); !slices.Equal(got, rises) {
		t.Errorf("%s: All: %s, want %s", what, short(got), short(rises))
	}
	want := bytesOf(uint64(base), uint64(end), uint64(len(rises)), rises...)
	if got := x.Bytes(); !slices.Equal(got, want) {
		t.Errorf("%s: Bytes: %d, want %d of them, or others", what, len(got), len(want))
	}
}

// short is what of a list may stand in a test's report.
func short(l []api.Rise) any {
	if len(l) > 20 {
		return len(l)
	}
	return l
}

// wantErr asks for this error.
func wantErr(t *testing.T, what string, got, want api.Errno) {
	t.Helper()
	if got != want {
		t.Errorf("%s: %v, want %v", what, got, want)
	}
}

// wantFind asks Find for this offset.
func wantFind(t *testing.T, what string, x *times.Index, time, want int64, found bool) {
	t.Helper()
	if n, ok := x.Find(time); n != want || ok != found {
		t.Errorf("%s: Find(%d): %d %v, want %d %v", what, time, n, ok, want, found)
	}
}

// wantUntil asks Until for this time.
func wantUntil(t *testing.T, what string, x *times.Index, offset, want int64, found bool) {
	t.Helper()
	if n, ok := x.Until(offset); n != want || ok != found {
		t.Errorf("%s: Until(%d): %d %v, want %d %v", what, offset, n, ok, want, found)
	}
}

// wantSame asks Same for this answer, from both sides.
func wantSame(t *testing.T, what string, x, o *times.Index, want bool) {
	t.Helper()
	if x.Same(o) != want || o.Same(x) != want {
		t.Errorf("%s: Same: %v %v, want %v", what, x.Same(o), o.Same(x), want)
	}
}

// wantRefused asks Open for this error, with nothing beside it.
func wantRefused(t *testing.T, what string, b []byte, want api.Errno) {
	t.Helper()
	if x, e := times.Open(b); x != nil || e != want {
		t.Errorf("%s: Open of %d bytes: %v %v, want %v", what, len(b), x, e, want)
	}
}

// wantOpened asks Open for the index of this base and this end, with these rises.
func wantOpened(t *testing.T, what string, base, end int64, rises ...api.Rise) {
	t.Helper()
	x, e := times.Open(bytesOf(uint64(base), uint64(end), uint64(len(rises)), rises...))
	if x == nil || e != api.OK {
		t.Errorf("%s: Open: %v %v", what, x, e)
		return
	}
	wantIndex(t, what, x, base, end, rises...)
}

// bytesOf are the bytes of the chapter's words, whether an index may have them or not.
func bytesOf(base, end, count uint64, rises ...api.Rise) []byte {
	b := slices.Concat(number(base, 8), number(end, 8), number(count, 4))
	for _, r := range rises {
		b = append(append(b, number(uint64(r.Offset), 8)...), number(uint64(r.Time), 8)...)
	}
	return b
}

// number is a number in so many bytes, the lowest one first.
func number(x uint64, size int) []byte {
	b := make([]byte, size)
	for i := range b {
		b[i] = byte(x % 256)
		x /= 256
	}
	return b
}

// far are offsets and times at which a call must end, too.
func far() []int64 {
	return []int64{math.MinInt64, math.MinInt64 + 1, -1 << 53, -1 << 32, -2, -1, 0, 1, 2, 1 << 31, 1 << 32, 1<<53 - 1, 1 << 53, 1<<53 + 1, 1<<53 + 2, 1 << 62, math.MaxInt64 - 1, math.MaxInt64}
}
