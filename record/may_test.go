package record_test

import (
	"math"
	"testing"

	"millrace/api"
	"millrace/record"
)

// wrongs are records that may not be, each by one thing.
func wrongs() map[string]api.Record {
	return map[string]api.Record{
		"time -1":         {Time: -1},
		"time least":      {Time: math.MinInt64},
		"time one past":   {Time: api.MaxTime + 1},
		"time most":       {Time: math.MaxInt64, Key: []byte("k")},
		"key one past":    {Key: make([]byte, api.MaxKey+1)},
		"key long":        {Key: make([]byte, 1<<16)},
		"value one past":  {Value: make([]byte, api.MaxValue+1)},
		"value long":      {Value: make([]byte, 1<<16+1)},
		"key as value":    {Key: make([]byte, api.MaxValue)},
		"both, and times": {Time: -1, Key: make([]byte, 300), Value: make([]byte, 5000)},
	}
}

// P5.1: both ends of each field, and one past.
func TestMay(t *testing.T) {
	for name, b := range batches() {
		for i, r := range b.Records {
			if !record.May(r) {
				t.Error(name, i)
			}
		}
	}
	for _, r := range []api.Record{
		{}, {Key: []byte{}, Value: []byte{}}, {Time: api.MaxTime}, {Time: 1}, {Time: api.MaxTime - 1},
		{Key: make([]byte, api.MaxKey)}, {Value: make([]byte, api.MaxValue)}, {Value: make([]byte, api.MaxKey+1)},
		{Key: make([]byte, 1, 1000), Value: make([]byte, 2, 10000)},
	} {
		if !record.May(r) {
			t.Error(r.Time, len(r.Key), len(r.Value))
		}
	}
	for name, r := range wrongs() {
		if record.May(r) {
			t.Error(name)
		}
	}
}

// P5.1: of any record, of one that may not be, too.
func TestSize(t *testing.T) {
	for _, c := range []struct {
		r    api.Record
		want int
	}{
		{rec(5, "a", "bc"), 15},
		{api.Record{}, 12},
		{rec(0, "", ""), 12},
		{rec(-9, "abc", ""), 15},
		{rec(math.MaxInt64, "", "abcd"), 16},
		{api.Record{Key: make([]byte, 2, 50), Value: make([]byte, 3, 70)}, 17},
		{api.Record{Key: make([]byte, api.MaxKey), Value: make([]byte, api.MaxValue)}, 12 + 256 + 4096},
		{api.Record{Key: make([]byte, 1<<17), Value: make([]byte, 1<<18)}, 12 + 3<<17},
	} {
		if n := record.Size(c.r); n != c.want {
			t.Errorf("got %d, want %d", n, c.want)
		}
	}
	for name, r := range wrongs() {
		if n := record.Size(r); n != 12+len(r.Key)+len(r.Value) {
			t.Error(name, n)
		}
	}
}

// wantFits holds Fits to its answer.
func wantFits(t *testing.T, what string, l []api.Record, size int, want api.Errno) {
	t.Helper()
	if n, e := record.Fits(l...); n != size || e != want {
		t.Errorf("%s: got %d %v, want %d %v", what, n, e, size, want)
	}
}

// P5.1: how many bytes the batch has, by the chapter's words.
func TestFits(t *testing.T) {
	for name, b := range batches() {
		wantFits(t, name, b.Records, len(batchBytes(b)), api.OK)
	}
	wantFits(t, "example", times(1, rec(5, "a", "bc")), 35, api.OK)
	wantFits(t, "two", []api.Record{rec(1, "abc", ""), rec(2, "", "de")}, 20+15+14, api.OK)
}

// P5.1: none; MaxRecords and one more; MaxBatch and one more byte.
func TestFitsBounds(t *testing.T) {
	wantFits(t, "nil", nil, 0, api.ErrArg)
	wantFits(t, "none", []api.Record{}, 0, api.ErrArg)
	wantFits(t, "MaxRecords", times(api.MaxRecords, rec(5, "a", "bc")), 20+15*api.MaxRecords, api.OK)
	wantFits(t, "one more", times(api.MaxRecords+1, rec(5, "a", "bc")), 0, api.ErrLarge)
	wantFits(t, "many", times(100000, api.Record{}), 0, api.ErrLarge)
	l := greatest()
	wantFits(t, "MaxBatch", l, api.MaxBatch, api.OK)
	last := &l[len(l)-1]
	last.Value = append(last.Value, 0)
	wantFits(t, "one more byte", l, 0, api.ErrLarge)
	wantFits(t, "one record more", append(greatest(), api.Record{}), 0, api.ErrLarge)
	even := times(api.MaxRecords-1, sized(api.MaxBatch/api.MaxRecords))
	wantFits(t, "both bounds", append(even, sized(api.MaxBatch/api.MaxRecords-20)), api.MaxBatch, api.OK)
	wantFits(t, "both bounds, one past", append(even, sized(api.MaxBatch/api.MaxRecords-19)), 0, api.ErrLarge)
}

// P5.1: one that may not be, wherever it stands; it is told ahead of there being too many, or too many bytes.
func TestFitsWrong(t *testing.T) {
	for name, r := range wrongs() {
		wantFits(t, name, times(1, r), 0, api.ErrArg)
		for _, n := range []int{2, api.MaxRecords, api.MaxRecords + 1, 1000} {
			for _, at := range []int{0, n / 2, n - 1} {
				l := times(n, rec(1, "k", "v"))
				l[at] = r
				wantFits(t, name, l, 0, api.ErrArg)
			}
		}
		wantFits(t, name+" behind too much", append(append(greatest(), greatest()...), r), 0, api.ErrArg)
	}
}

// P5.1: what is handed in stays as it is.
func TestFitsLeaves(t *testing.T) {
	room := []api.Record{rec(1, "a", "b"), rec(2, "c", "d"), rec(3, "e", "f")}
	wantFits(t, "two", room[:2], 20+14+14, api.OK)
	if !same(api.Batch{Records: room}, api.Batch{Records: []api.Record{rec(1, "a", "b"), rec(2, "c", "d"), rec(3, "e", "f")}}) {
		t.Error(room)
	}
}
