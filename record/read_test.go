package record_test

import (
	"bytes"
	"encoding/binary"
	"math"
	"math/rand"
	"slices"
	"testing"

	"millrace/api"
	"millrace/record"
)

// wantStands holds Read and Look to what stands at a place, and tells that.
func wantStands(t *testing.T, what string, b []byte, at int) api.Errno {
	t.Helper()
	batch, size, e := stands(b, at)
	if e == api.OK {
		wantBatch(t, what, b, at, batch, size)
	} else {
		wantNone(t, what, b, at, e)
	}
	return e
}

// P5.3: whole ones, whatever stands ahead of them and behind them.
func TestReadWhole(t *testing.T) {
	for name, x := range batches() {
		b := batchBytes(x)
		wantBatch(t, name, b, 0, x, len(b))
		wantNone(t, name, b, len(b), api.ErrEnd)
		for _, beside := range [][]byte{{0}, {255, 255, 255, 255, 255}, b, b[:len(b)-1], make([]byte, 100)} {
			wantBatch(t, name, slices.Concat(b, beside), 0, x, len(b))
			wantBatch(t, name, slices.Concat(beside, b), len(beside), x, len(b))
			wantBatch(t, name, slices.Concat(beside, b, beside), len(beside), x, len(b))
		}
	}
}

// P5.3: the chapter's examples.
func TestReadExamples(t *testing.T) {
	x := api.Batch{Base: 7, Records: times(1, rec(5, "a", "bc"))}
	that := put(t, x)
	wantBatch(t, "that", that, 0, x, 35)
	wantNone(t, "that", that, 35, api.ErrEnd)
	wantNone(t, "that", that, 36, api.ErrRange)
	wantNone(t, "first 20", that[:20], 0, api.ErrTorn)
	wantNone(t, "first 3", that[:3], 0, api.ErrTorn)
	wantNone(t, "27", []byte{27, 0, 0, 0}, 0, api.ErrCorrupt)
	wantNone(t, "255s", []byte{255, 255, 255, 255}, 0, api.ErrCorrupt)
	for change := 1; change < 256; change++ {
		other := bytes.Clone(that)
		other[20] += byte(change)
		wantNone(t, "another byte 20", other, 0, api.ErrCorrupt)
	}
}

// P5.3: places that are not there, and the end.
func TestReadPlaces(t *testing.T) {
	that := batchBytes(api.Batch{Base: 7, Records: times(2, rec(5, "a", "bc"))})
	for _, b := range [][]byte{nil, {}, {1}, {255, 255, 255, 255, 255}, that, slices.Concat(that, that), that[:30], make([]byte, 4, 100)} {
		wantNone(t, "end", b, len(b), api.ErrEnd)
		for _, at := range []int{-1, -4, -len(b) - 1, math.MinInt, len(b) + 1, len(b) + 4, len(b) + 100, math.MaxInt, math.MaxInt - 3, math.MinInt + 4} {
			wantNone(t, "no place", b, at, api.ErrRange)
		}
	}
}

// P5.3: fewer than four bytes are torn, whatever they are.
func TestReadFew(t *testing.T) {
	for x := range 256 {
		for y := range 256 {
			wantNone(t, "one", []byte{byte(x), 9, byte(y)}, 2, api.ErrTorn)
			wantNone(t, "two", []byte{byte(x), byte(y)}, 0, api.ErrTorn)
			wantNone(t, "three", []byte{byte(x), byte(y), byte(x ^ y)}, 0, api.ErrTorn)
		}
	}
	wantNone(t, "spare room", bytes.Repeat([]byte{28}, 50)[:3], 0, api.ErrTorn)
}

// P5.3: what the first four bytes say, with fewer bytes behind them than that, as many, and more.
func TestReadLengths(t *testing.T) {
	for _, n := range []uint32{0, 1, 20, 26, 27, 28, 29, 31, 256, 1 << 14, api.MaxBatch - 5, api.MaxBatch - 4, api.MaxBatch - 3, api.MaxBatch, api.MaxBatch + 28, 1 << 24, 1<<24 + 28, 1<<31 - 1, 1 << 31, 1<<31 + 28, math.MaxUint32} {
		may := n >= 28 && n <= api.MaxBatch-4
		for _, behind := range []int{0, 1, 4, 27, 28, 29, int(n) - 1, int(n), int(n) + 1} {
			if behind < 0 || behind > 1<<17 {
				continue
			}
			for _, fill := range []byte{0, 1, 255} {
				b := binary.LittleEndian.AppendUint32([]byte{9, 9}, n)
				b = append(b, bytes.Repeat([]byte{fill}, behind)...)
				want := api.ErrCorrupt
				if may && behind < int(n) {
					want = api.ErrTorn
				}
				wantNone(t, "length", b, 2, want)
			}
		}
	}
}

// P5.3: batches one byte and one record below and above what may be, right in all else.
func TestReadSizes(t *testing.T) {
	l := greatest()
	b := bytesOf(5, uint32(len(l)), l...)
	if len(b) != api.MaxBatch {
		t.Fatal(len(b))
	}
	wantBatch(t, "MaxBatch", b, 0, api.Batch{Base: 5, Records: l}, api.MaxBatch)
	wantNone(t, "MaxBatch, torn", b[:len(b)-1], 0, api.ErrTorn)
	last := &l[len(l)-1]
	last.Key = append(bytes.Clone(last.Key), 0)
	b = bytesOf(5, uint32(len(l)), l...)
	wantNone(t, "one more byte", b, 0, api.ErrCorrupt)
	wantNone(t, "one more byte, torn", b[:40], 0, api.ErrCorrupt)
	l = times(api.MaxRecords+1, rec(1, "k", "v"))
	b = bytesOf(5, api.MaxRecords, l[1:]...)
	wantBatch(t, "MaxRecords", b, 0, api.Batch{Base: 5, Records: l[1:]}, len(b))
	b = bytesOf(5, api.MaxRecords+1, l...)
	wantNone(t, "one more record", b, 0, api.ErrCorrupt)
	wantNone(t, "one more record, torn", b[:len(b)-1], 0, api.ErrTorn)
	wantNone(t, "28", bytesOf(0, 1, api.Record{})[:31], 0, api.ErrTorn)
	wantBatch(t, "28", bytesOf(0, 1, api.Record{}), 0, api.Batch{Records: times(1, api.Record{})}, 32)
	wantNone(t, "27", sealed(make([]byte, 23)), 0, api.ErrCorrupt)
}

// P5.3: the sum is right, and what it is of is none that may be.
func TestReadWrongInside(t *testing.T) {
	r := rec(5, "a", "bc")
	at := func(record []byte, place int, to ...byte) []byte {
		out := bytes.Clone(record)
		copy(out[place:], to)
		return sealed(slices.Concat([]byte{7, 0, 0, 0, 0, 0, 0, 0, 1, 0, 0, 0}, out))
	}
	two := func(a, b []byte) []byte {
		return sealed(slices.Concat([]byte{7, 0, 0, 0, 0, 0, 0, 0, 2, 0, 0, 0}, a, b))
	}
	of := recordBytes(r)
	wantBatch(t, "two", two(of, of), 0, api.Batch{Base: 7, Records: times(2, r)}, 50)
	wantBatch(t, "key takes all", at(of, 8, 3, 0, 0, 0), 0, api.Batch{Base: 7, Records: times(1, rec(5, "abc", ""))}, 35)
	wantBatch(t, "as it is", at(of, 0), 0, api.Batch{Base: 7, Records: times(1, r)}, 35)
	for name, b := range map[string][]byte{
		"no records":             bytesOf(7, 0, r),
		"no records, room":       bytesOf(7, 0, api.Record{}),
		"one too few":            bytesOf(7, 1, r, r),
		"one too many":           bytesOf(7, 2, r),
		"256 too many":           bytesOf(7, 257, r),
		"many too many":          bytesOf(7, math.MaxUint32, times(5000, api.Record{})...),
		"2^31 too many":          bytesOf(7, 1<<31+1, r),
		"none left":              bytesOf(7, 3, r, r),
		"base -1":                bytesOf(-1, 1, r),
		"base least":             bytesOf(math.MinInt64, 1, r),
		"base one past":          bytesOf(api.MaxOffset+1, 1, r),
		"base most":              bytesOf(math.MaxInt64, 1, r),
		"last offset one past":   bytesOf(api.MaxOffset, 2, r, r),
		"last offset goes round": bytesOf(math.MaxInt64, 2, r, r),
		"key one too long":       at(of, 8, 2),
		"key one too short":      at(of, 8, 0),
		"key far too long":       at(of, 8, 255, 255),
		"value one too long":     at(of, 10, 3),
		"value one too short":    at(of, 10, 1),
		"value far too long":     at(of, 10, 255, 255),
		"both far too long":      at(of, 8, 255, 255, 255, 255),
		"a byte left":            at(append(bytes.Clone(of), 0), 0),
		"a record's head left":   at(append(bytes.Clone(of), of[:11]...), 0),
		"time cut":               two(of, of[:7]),
		"key's length cut":       two(of, of[:9]),
		"value's length cut":     two(of, of[:11]),
		"key cut":                two(of, of[:12]),
		"value cut":              two(of, of[:14]),
	} {
		wantNone(t, name, b, 0, api.ErrCorrupt)
		wantNone(t, name, slices.Concat(b, make([]byte, 200)), 0, api.ErrCorrupt)
		wantNone(t, name, slices.Concat([]byte{1, 2, 3}, b), 3, api.ErrCorrupt)
	}
	for name, r := range wrongs() {
		if len(r.Key) > math.MaxUint16 || len(r.Value) > math.MaxUint16 {
			continue
		}
		for _, l := range [][]api.Record{{r}, {{}, r}, {r, {}}} {
			b := bytesOf(7, uint32(len(l)), l...)
			wantNone(t, name, b, 0, api.ErrCorrupt)
			wantNone(t, name, b[:len(b)-1], 0, api.ErrTorn)
		}
	}
}

// P5.3: at each place of bytes in which batches stand, and what is none.
func TestReadEachPlace(t *testing.T) {
	one := batchBytes(api.Batch{Base: 7, Records: times(1, rec(5, "a", "bc"))})
	other := batchBytes(api.Batch{Base: 1 << 50, Records: []api.Record{{}, rec(1, "key", "value"), rec(2, "", string(one))}})
	wrong := bytesOf(3, 2, api.Record{})
	found := map[api.Errno]int{}
	for _, b := range [][]byte{
		slices.Concat(one, other, one),
		slices.Concat(one, wrong, other),
		slices.Concat([]byte{0}, other, []byte{28, 0, 0, 0}, one),
		slices.Concat(one, other[:40]),
		slices.Concat(other, bytes.Repeat([]byte{0}, 40), one[:33]),
	} {
		for at := -2; at <= len(b)+2; at++ {
			found[wantStands(t, "each place", b, at)]++
		}
	}
	for _, e := range []api.Errno{api.OK, api.ErrEnd, api.ErrTorn, api.ErrCorrupt, api.ErrRange} {
		if found[e] < 5 {
			t.Errorf("%v: found %d times", e, found[e])
		}
	}
}

// P5.3: batches in which bytes behind the sum were changed, and the sum made right.
func TestReadDrawn(t *testing.T) {
	r := rand.New(rand.NewSource(53))
	found := map[api.Errno]int{}
	for range 20000 {
		behind := batchBytes(drawn(r, 4))[8:]
		for range 1 + r.Intn(3) {
			behind[r.Intn(len(behind))] = byte(r.Intn(1 << (1 + r.Intn(8))))
		}
		b := slices.Concat(sealed(behind), make([]byte, r.Intn(10)))
		if r.Intn(4) == 0 {
			b = b[:r.Intn(len(b))]
		}
		found[wantStands(t, "drawn", b, 0)]++
	}
	if found[api.OK] < 1000 || found[api.ErrTorn] < 1000 || found[api.ErrCorrupt] < 1000 {
		t.Error(found)
	}
}

// scribble writes over the bytes, and the spare room behind them.
func scribble(b []byte) {
	b = b[:cap(b)]
	for i := range b {
		b[i] ^= 0x5a
	}
}

// wantApart writes over each Key and Value of a list, one by one, and asks that no other one has changed.
func wantApart(t *testing.T, what string, l []api.Record) {
	t.Helper()
	var parts [][]byte
	for _, r := range l {
		parts = append(parts, r.Key, r.Value)
	}
	var want []string
	for _, p := range parts {
		want = append(want, string(p))
	}
	for i, p := range parts {
		scribble(p)
		for k := range parts {
			if k != i && string(parts[k]) != want[k] {
				t.Errorf("%s: part %d is changed with part %d", what, k, i)
			}
		}
		scribble(p)
	}
}

// P5.3: new memory, each part of it; what is handed in stays as it is.
func TestReadNewMemory(t *testing.T) {
	x := api.Batch{Base: 7, Records: []api.Record{rec(1, "key", "value"), rec(2, "", "v"), rec(3, "k", ""), rec(4, "a", "b")}}
	b := slices.Concat([]byte("ahead"), batchBytes(x), []byte("behind"))
	kept := bytes.Clone(b)
	first, _, _ := record.Read(b, 5)
	second, _, _ := record.Read(b, 5)
	record.Look(b, 5)
	if !bytes.Equal(b, kept) {
		t.Error("what was handed in has changed")
	}
	wantApart(t, "two answers", append(first.Records[:4:4], second.Records...))
	for i := range second.Records {
		scribble(second.Records[i].Key)
		scribble(second.Records[i].Value)
		second.Records[i] = api.Record{}
	}
	if !bytes.Equal(b, kept) || !same(first, x) {
		t.Error("an answer shares memory")
	}
	clear(b)
	if !same(first, x) {
		t.Error("an answer shares memory with what was handed in")
	}
}
