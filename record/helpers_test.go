package record_test

import (
	"bytes"
	"encoding/binary"
	"hash/crc32"
	"math/rand"
	"slices"
	"testing"

	"millrace/api"
	"millrace/record"
)

func rec(time int64, key, value string) api.Record {
	return api.Record{Time: time, Key: []byte(key), Value: []byte(value)}
}

// sized is a record that may be and has that many bytes.
func sized(n int) api.Record {
	key := min(n-12, api.MaxKey)
	return api.Record{Time: 3, Key: bytes.Repeat([]byte{'k'}, key), Value: bytes.Repeat([]byte{'v'}, n-12-key)}
}

// greatest are records whose batch has just MaxBatch bytes.
func greatest() []api.Record {
	l := slices.Repeat([]api.Record{sized(12 + api.MaxKey + api.MaxValue)}, 15)
	return append(l, sized(api.MaxBatch-20-15*(12+api.MaxKey+api.MaxValue)))
}

func times(n int, r api.Record) []api.Record { return slices.Repeat([]api.Record{r}, n) }

// recordBytes are a record's bytes by the chapter's words.
func recordBytes(r api.Record) []byte {
	out := binary.LittleEndian.AppendUint64(nil, uint64(r.Time))
	out = binary.LittleEndian.AppendUint16(out, uint16(len(r.Key)))
	out = binary.LittleEndian.AppendUint16(out, uint16(len(r.Value)))
	return slices.Concat(out, r.Key, r.Value)
}

// sealed puts the length and the sum ahead of what stands behind them in a batch's bytes, whatever that is.
func sealed(behind []byte) []byte {
	out := binary.LittleEndian.AppendUint32(nil, uint32(4+len(behind)))
	out = binary.LittleEndian.AppendUint32(out, crc32.Checksum(behind, crc32.MakeTable(crc32.Castagnoli)))
	return append(out, behind...)
}

// bytesOf are the bytes by the chapter's words of any batch, of one that may not be, too, with that count.
func bytesOf(base int64, count uint32, l ...api.Record) []byte {
	behind := binary.LittleEndian.AppendUint64(nil, uint64(base))
	behind = binary.LittleEndian.AppendUint32(behind, count)
	for _, r := range l {
		behind = append(behind, recordBytes(r)...)
	}
	return sealed(behind)
}

func batchBytes(b api.Batch) []byte {
	return bytesOf(b.Base, uint32(len(b.Records)), b.Records...)
}

// same is the tests' own: it does not lean on what is tested.
func same(a, b api.Batch) bool {
	return a.Base == b.Base && slices.EqualFunc(a.Records, b.Records, func(x, y api.Record) bool {
		return x.Time == y.Time && string(x.Key) == string(y.Key) && string(x.Value) == string(y.Value)
	})
}

func put(t *testing.T, b api.Batch) []byte {
	t.Helper()
	out, e := record.Put(b)
	if e != api.OK {
		t.Fatalf("Put from %d, %d records: %v", b.Base, len(b.Records), e)
	}
	return out
}

// wantBatch asks Read and Look for a whole batch at a place.
func wantBatch(t *testing.T, what string, b []byte, at int, want api.Batch, size int) {
	t.Helper()
	got, n, e := record.Read(b, at)
	if e != api.OK || n != size || !same(got, want) {
		t.Errorf("%s: Read at %d: from %d, %d records, %d bytes, %v", what, at, got.Base, len(got.Records), n, e)
	}
	base, count, n, e := record.Look(b, at)
	if e != api.OK || n != size || base != want.Base || count != len(want.Records) {
		t.Errorf("%s: Look at %d: %d %d %d %v", what, at, base, count, n, e)
	}
}

// wantNone asks Read and Look for what stands at a place, where no whole batch does; all else that they answer is zero.
func wantNone(t *testing.T, what string, b []byte, at int, want api.Errno) {
	t.Helper()
	got, n, e := record.Read(b, at)
	if e != want || n != 0 || got.Base != 0 || got.Records != nil {
		t.Errorf("%s: Read at %d: from %d, %d records, %d bytes, %v, want %v", what, at, got.Base, len(got.Records), n, e, want)
	}
	base, count, n, e := record.Look(b, at)
	if e != want || n != 0 || base != 0 || count != 0 {
		t.Errorf("%s: Look at %d: %d %d %d %v, want %v", what, at, base, count, n, e, want)
	}
}

// batches are some that may be, at all the edges that there are.
func batches() map[string]api.Batch {
	most := api.Record{Time: api.MaxTime, Key: bytes.Repeat([]byte{1}, api.MaxKey), Value: bytes.Repeat([]byte{255}, api.MaxValue)}
	return map[string]api.Batch{
		"one":            {Base: 7, Records: times(1, rec(5, "a", "bc"))},
		"least":          {Records: times(1, api.Record{})},
		"empty":          {Records: times(1, rec(0, "", ""))},
		"nil ahead":      {Base: 1, Records: []api.Record{{}, rec(1, "", "x"), rec(2, "y", ""), {Time: 3}}},
		"most of each":   {Base: api.MaxOffset, Records: times(1, most)},
		"last offset":    {Base: api.MaxOffset - 2, Records: times(3, rec(1, "k", "v"))},
		"MaxRecords":     {Base: 1 << 40, Records: times(api.MaxRecords, rec(9, "k", "v"))},
		"both, at end":   {Base: api.MaxOffset - api.MaxRecords + 1, Records: times(api.MaxRecords, api.Record{Time: api.MaxTime})},
		"MaxBatch":       {Base: 12345, Records: greatest()},
		"times fall":     {Base: 3, Records: []api.Record{rec(9, "a", "1"), rec(0, "a", "2"), rec(4, "", "")}},
		"batch in value": {Base: 3, Records: times(1, rec(1, "k", string(bytesOf(7, 1, rec(5, "a", "bc")))))},
	}
}

// drawn is a batch with up to that many records, and short Keys and Values.
func drawn(r *rand.Rand, most int) api.Batch {
	b := api.Batch{Base: r.Int63n(api.MaxOffset - api.MaxRecords)}
	for range 1 + r.Intn(most) {
		x := api.Record{Time: r.Int63n(api.MaxTime + 1), Key: make([]byte, r.Intn(6)), Value: make([]byte, r.Intn(20))}
		r.Read(x.Key)
		r.Read(x.Value)
		b.Records = append(b.Records, x)
	}
	return b
}
