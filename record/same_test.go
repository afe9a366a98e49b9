package record_test

import (
	"bytes"
	"math"
	"slices"
	"testing"

	"millrace/api"
	"millrace/record"
)

// kinds are records of which no two are the same.
func kinds() []api.Record {
	return []api.Record{
		{}, {Time: 1}, {Time: -1}, {Time: 1 << 32}, {Time: math.MinInt64}, {Time: math.MaxInt64},
		rec(0, "a", ""), rec(0, "", "a"), rec(0, "a", "a"), rec(0, "b", "a"), rec(0, "a", "b"), rec(1, "a", "b"),
		rec(0, "ab", ""), rec(0, "", "ab"), rec(0, "aa", "b"), rec(0, "a", "ab"), rec(0, "\x00", ""), rec(0, "", "\x00"), rec(0, "", "\x00\x00"),
		{Key: make([]byte, 5000)}, {Value: make([]byte, 5000)}, {Value: append(make([]byte, 4999), 1)},
	}
}

// otherwise is the same record in other memory: with spare room, and with nil for empty bytes, or empty ones for nil.
func otherwise(r api.Record) api.Record {
	turn := func(b []byte) []byte {
		if b == nil {
			return []byte{}
		}
		if len(b) == 0 {
			return nil
		}
		return append(make([]byte, 0, len(b)+7), b...)
	}
	return api.Record{Time: r.Time, Key: turn(r.Key), Value: turn(r.Value)}
}

// P5.5: by Time, Key and Value; nil bytes and empty ones are the same.
func TestSame(t *testing.T) {
	l := kinds()
	for i, a := range l {
		for k, b := range l {
			for _, c := range []api.Record{b, otherwise(b)} {
				if record.Same(a, c) != (i == k) || record.Same(c, a) != (i == k) {
					t.Error(i, k)
				}
			}
		}
	}
	empty := api.Record{Key: []byte{}, Value: []byte{}}
	if !record.Same(api.Record{}, empty) || !record.Same(empty, api.Record{Key: []byte{}}) || !record.Same(api.Record{}, api.Record{}) {
		t.Error("nil and empty")
	}
}

// P5.5: as many, and each the same as the one in its place.
func TestSameAll(t *testing.T) {
	l := kinds()
	var o []api.Record
	for _, r := range l {
		o = append(o, otherwise(r))
	}
	for n := range len(l) + 1 {
		for k := range len(l) + 1 {
			if record.SameAll(l[:n], o[:k]) != (n == k) {
				t.Error(n, k)
			}
		}
	}
	for i := range l {
		for k := range l {
			other := slices.Clone(o)
			other[i] = l[k]
			if record.SameAll(l, other) != (i == k) || record.SameAll(other, l) != (i == k) {
				t.Error(i, k)
			}
		}
	}
	if !record.SameAll(nil, []api.Record{}) || !record.SameAll(nil, nil) || record.SameAll(nil, l[:1]) || record.SameAll(l[:1], nil) {
		t.Error("nil and empty")
	}
	if record.SameAll([]api.Record{l[0], l[1]}, []api.Record{l[1], l[0]}) {
		t.Error("another order")
	}
}

// P5.5: the same records, of any kind.
func TestCopy(t *testing.T) {
	for _, l := range [][]api.Record{nil, {}, kinds(), times(1000, rec(1, "k", "v")), greatest()} {
		c := record.Copy(l)
		if !same(api.Batch{Records: c}, api.Batch{Records: l}) || !record.SameAll(c, l) {
			t.Error(len(l), len(c))
		}
		if !record.SameAll(record.Copy(c), l) {
			t.Error("a copy's copy", len(l))
		}
	}
}

// P5.5: in new memory: neither one changes with the other, nor one part with another.
func TestCopyNewMemory(t *testing.T) {
	want := []api.Record{rec(1, "key", "value"), rec(2, "", "v"), rec(3, "k", ""), rec(4, "a", "b")}
	room := []byte("keyvaluevkab")
	l := []api.Record{
		{Time: 1, Key: room[:3], Value: room[3:8]}, {Time: 2, Value: room[8:9]}, {Time: 3, Key: room[9:10]}, {Time: 4, Key: room[10:11], Value: room[11:12]},
		rec(9, "not", "copied"),
	}
	c := record.Copy(l[:4])
	wantApart(t, "one copy", c)
	wantApart(t, "two copies", append(c[:4:4], record.Copy(l[:4])...))
	shared := times(3, rec(1, "key", "value"))
	wantApart(t, "what shared its bytes", record.Copy(shared))
	scribble(room)
	clear(l)
	if !record.SameAll(c, want) {
		t.Error("the copy has changed")
	}
	room = bytes.Clone([]byte("keyvalue"))
	l = []api.Record{{Time: 1, Key: room[:3], Value: room[3:]}, rec(2, "a", "b"), rec(3, "x", "y")}
	c = record.Copy(l[:2])
	for i := range c {
		scribble(c[i].Key)
		scribble(c[i].Value)
		c[i].Time = 50
		c[i].Key = nil
	}
	_ = append(c, rec(7, "p", "q"))
	if string(room) != "keyvalue" || !record.SameAll(l, []api.Record{rec(1, "key", "value"), rec(2, "a", "b"), rec(3, "x", "y")}) {
		t.Error("what was copied has changed")
	}
}
