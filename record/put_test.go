package record_test

import (
	"bytes"
	"math"
	"math/rand"
	"testing"

	"millrace/api"
	"millrace/record"
)

// P5.2: the bytes, one by one.
func TestPutBytes(t *testing.T) {
	b := put(t, api.Batch{Base: 7, Records: times(1, rec(5, "a", "bc"))})
	if len(b) != 35 || !bytes.Equal(b[:4], []byte{31, 0, 0, 0}) {
		t.Errorf("%x", b)
	}
	want := []byte{7, 0, 0, 0, 0, 0, 0, 0, 1, 0, 0, 0, 5, 0, 0, 0, 0, 0, 0, 0, 1, 0, 2, 0, 'a', 'b', 'c'}
	if !bytes.Equal(b[8:], want) {
		t.Errorf("got %x, want %x", b[8:], want)
	}
	b = put(t, api.Batch{Base: 0x10203040506, Records: []api.Record{
		{Time: 0x1020304050607, Value: make([]byte, 0x102)},
		{Key: make([]byte, 0x100)},
	}})
	want = []byte{6, 5, 4, 3, 2, 1, 0, 0, 2, 0, 0, 0, 7, 6, 5, 4, 3, 2, 1, 0, 0, 0, 2, 1}
	if !bytes.Equal(b[8:32], want) {
		t.Errorf("got %x, want %x", b[8:32], want)
	}
	want = []byte{0, 0, 0, 0, 0, 0, 0, 0, 0, 1, 0, 0}
	if at := 32 + 0x102; !bytes.Equal(b[at:at+12], want) || len(b) != at+12+0x100 {
		t.Errorf("got %x, want %x", b[at:at+12], want)
	}
}

// P5.2: by the chapter's words; as many as Fits says.
func TestPut(t *testing.T) {
	all := batches()
	r := rand.New(rand.NewSource(51))
	for i := range 300 {
		all["drawn "+string(rune('0'+i))] = drawn(r, 12)
	}
	for name, b := range all {
		got := put(t, b)
		if !bytes.Equal(got, batchBytes(b)) {
			t.Errorf("%s: got %x, want %x", name, got, batchBytes(b))
		}
		if n, _ := record.Fits(b.Records...); n != len(got) {
			t.Errorf("%s: Fits %d, Put %d", name, n, len(got))
		}
	}
}

func wantPut(t *testing.T, what string, b api.Batch, want api.Errno) {
	t.Helper()
	if got, e := record.Put(b); e != want || (e != api.OK) != (got == nil) {
		t.Errorf("%s: got %d bytes, %v, want %v", what, len(got), e, want)
	}
}

// P5.2: the first offset and the last one, at both ends and one past; numbers that would go round.
func TestPutOffsets(t *testing.T) {
	for _, c := range []struct {
		base  int64
		count int
		want  api.Errno
	}{
		{0, 1, api.OK}, {-1, 1, api.ErrArg}, {-1, 2, api.ErrArg}, {math.MinInt64, 1, api.ErrArg}, {math.MinInt64, 256, api.ErrArg},
		{api.MaxOffset, 1, api.OK}, {api.MaxOffset + 1, 1, api.ErrArg}, {api.MaxOffset, 2, api.ErrArg},
		{api.MaxOffset - 1, 2, api.OK}, {api.MaxOffset - 1, 3, api.ErrArg},
		{api.MaxOffset - 255, 256, api.OK}, {api.MaxOffset - 254, 256, api.ErrArg},
		{math.MaxInt64, 1, api.ErrArg}, {math.MaxInt64, 256, api.ErrArg}, {math.MaxInt64 - 100, 256, api.ErrArg},
	} {
		wantPut(t, "offsets", api.Batch{Base: c.base, Records: times(c.count, rec(1, "k", "v"))}, c.want)
	}
}

// P5.2: none, too many, too many bytes, one that may not be.
func TestPutRecords(t *testing.T) {
	wantPut(t, "zero", api.Batch{}, api.ErrArg)
	wantPut(t, "none", api.Batch{Base: 5, Records: []api.Record{}}, api.ErrArg)
	wantPut(t, "MaxRecords", api.Batch{Records: times(api.MaxRecords, api.Record{})}, api.OK)
	wantPut(t, "one more", api.Batch{Records: times(api.MaxRecords+1, api.Record{})}, api.ErrLarge)
	l := greatest()
	wantPut(t, "MaxBatch", api.Batch{Records: l}, api.OK)
	l[len(l)-1].Key = append(l[len(l)-1].Key, 1)
	wantPut(t, "one more byte", api.Batch{Records: l}, api.ErrLarge)
	for name, r := range wrongs() {
		wantPut(t, name, api.Batch{Records: times(1, r)}, api.ErrArg)
		wantPut(t, name+", behind another", api.Batch{Records: []api.Record{{}, r}}, api.ErrArg)
	}
}

// P5.2: what may not be is told ahead of what is too much.
func TestPutOrder(t *testing.T) {
	many := times(api.MaxRecords+1, api.Record{})
	long := append(greatest(), api.Record{})
	for _, l := range [][]api.Record{many, long} {
		wantPut(t, "too much", api.Batch{Base: 5, Records: l}, api.ErrLarge)
		wantPut(t, "base below 0", api.Batch{Base: -1, Records: l}, api.ErrArg)
		wantPut(t, "base above", api.Batch{Base: api.MaxOffset + 1, Records: l}, api.ErrArg)
		wantPut(t, "last offset at its bound", api.Batch{Base: api.MaxOffset - int64(len(l)) + 1, Records: l}, api.ErrLarge)
		wantPut(t, "last offset above", api.Batch{Base: api.MaxOffset - int64(len(l)) + 2, Records: l}, api.ErrArg)
		wantPut(t, "a record", api.Batch{Base: 5, Records: append(l[:len(l):len(l)], api.Record{Time: -1})}, api.ErrArg)
	}
}

// P5.2: new memory; what is handed in stays as it is, its spare room too.
func TestPutNewMemory(t *testing.T) {
	room := bytes.Repeat([]byte{0xee}, 40)
	l := []api.Record{{Time: 1, Key: room[:3], Value: room[5:9]}, {Time: 2, Key: room[10:10]}, {Time: 77}}
	b := api.Batch{Base: 4, Records: l[:2]}
	first := put(t, b)
	want := batchBytes(b)
	second := put(t, b)
	if b.Base != 4 || len(b.Records) != 2 || l[2].Time != 77 || !bytes.Equal(room, bytes.Repeat([]byte{0xee}, 40)) {
		t.Error("its argument has changed")
	}
	clear(room)
	second = second[:cap(second)]
	clear(second)
	if !bytes.Equal(first, want) {
		t.Errorf("got %x, want %x", first, want)
	}
}
