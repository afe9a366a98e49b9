package wire_test

import (
	"bytes"
	"math"
	"testing"

	"millrace/api"
	"millrace/wire"
)

// appenders are all the calls that append, each with something that it takes.
func appenders() map[string]func(b []byte) []byte {
	return map[string]func(b []byte) []byte{
		"U8":  func(b []byte) []byte { return wire.AppendU8(b, 0x12) },
		"U16": func(b []byte) []byte { return wire.AppendU16(b, 0x1234) },
		"U32": func(b []byte) []byte { return wire.AppendU32(b, 0x12345678) },
		"U64": func(b []byte) []byte { return wire.AppendU64(b, 0x123456789abcdef0) },
		"I64": func(b []byte) []byte { return wire.AppendI64(b, -2) },
		"F64": func(b []byte) []byte { return wire.AppendF64(b, 1.5) },
		"String": func(b []byte) []byte {
			out, _ := wire.AppendString(b, []byte("xyz"))
			return out
		},
		"List": func(b []byte) []byte {
			out, _ := wire.AppendList(b, []byte("x"), nil, []byte("yz"))
			return out
		},
	}
}

func wantBytes(t *testing.T, what string, got, want []byte) {
	t.Helper()
	if !bytes.Equal(got, want) {
		t.Errorf("%s: got %x, want %x", what, got, want)
	}
}

// P1.1
func TestAppendNumbers(t *testing.T) {
	b := []byte{9, 8}
	for _, c := range []struct {
		what string
		got  []byte
		want []byte
	}{
		{"U8 0", wire.AppendU8(nil, 0), []byte{0}},
		{"U8 most", wire.AppendU8(b, 255), []byte{9, 8, 255}},
		{"U16", wire.AppendU16([]byte{1}, 0x0203), []byte{1, 3, 2}},
		{"U16 most", wire.AppendU16(b, math.MaxUint16), []byte{9, 8, 255, 255}},
		{"U32", wire.AppendU32(b, 0x01020304), []byte{9, 8, 4, 3, 2, 1}},
		{"U32 most", wire.AppendU32([]byte{}, math.MaxUint32), []byte{255, 255, 255, 255}},
		{"U64", wire.AppendU64(b, 0x0102030405060708), []byte{9, 8, 8, 7, 6, 5, 4, 3, 2, 1}},
		{"U64 most", wire.AppendU64(nil, math.MaxUint64), bytes.Repeat([]byte{255}, 8)},
		{"I64 1", wire.AppendI64(nil, 1), []byte{1, 0, 0, 0, 0, 0, 0, 0}},
		{"I64 -1", wire.AppendI64(nil, -1), bytes.Repeat([]byte{255}, 8)},
		{"I64 least", wire.AppendI64(b, math.MinInt64), []byte{9, 8, 0, 0, 0, 0, 0, 0, 0, 0x80}},
		{"I64 most", wire.AppendI64(nil, math.MaxInt64), []byte{255, 255, 255, 255, 255, 255, 255, 0x7f}},
		{"F64 1", wire.AppendF64(nil, 1), []byte{0, 0, 0, 0, 0, 0, 0xf0, 0x3f}},
		{"F64 0", wire.AppendF64(b, 0), []byte{9, 8, 0, 0, 0, 0, 0, 0, 0, 0}},
		{"F64 -0", wire.AppendF64(nil, math.Copysign(0, -1)), []byte{0, 0, 0, 0, 0, 0, 0, 0x80}},
		{"F64 infinity", wire.AppendF64(nil, math.Inf(1)), []byte{0, 0, 0, 0, 0, 0, 0xf0, 0x7f}},
		{"F64 -infinity", wire.AppendF64(nil, math.Inf(-1)), []byte{0, 0, 0, 0, 0, 0, 0xf0, 0xff}},
		{"F64 least", wire.AppendF64(nil, math.SmallestNonzeroFloat64), []byte{1, 0, 0, 0, 0, 0, 0, 0}},
	} {
		wantBytes(t, c.what, c.got, c.want)
	}
}

// nanBits are those of quiet and signalling NaNs, of both signs, with and without bits of their own.
func nanBits() []uint64 {
	return []uint64{0x7ff8000000000000, 0x7ff8000000000001, 0x7ff0000000000001, 0xfff8000000000000, 0xfff0000000000001, 0x7fffffffffffffff, 0xffffffffffffffff, 0x7ff4123456789abc}
}

// P1.1: a NaN's bits stay.
func TestAppendNaN(t *testing.T) {
	for _, x := range nanBits() {
		wantBytes(t, "NaN", wire.AppendF64(nil, math.Float64frombits(x)), wire.AppendU64(nil, x))
	}
}

// P1.1
func TestAppendString(t *testing.T) {
	for _, c := range []struct{ b, s, want []byte }{
		{nil, []byte("ab"), []byte{2, 0, 0, 0, 'a', 'b'}},
		{nil, nil, []byte{0, 0, 0, 0}},
		{[]byte{7}, []byte{}, []byte{7, 0, 0, 0, 0}},
		{[]byte{7}, []byte{0}, []byte{7, 1, 0, 0, 0, 0}},
		{nil, make([]byte, 258), append([]byte{2, 1, 0, 0}, make([]byte, 258)...)},
	} {
		got, e := wire.AppendString(c.b, c.s)
		if e != api.OK {
			t.Errorf("%x: %v", c.s, e)
		}
		wantBytes(t, "string", got, c.want)
	}
}

// P1.1: MaxString goes, one more does not.
func TestAppendStringBound(t *testing.T) {
	s := bytes.Repeat([]byte{'q'}, api.MaxString+1)
	got, e := wire.AppendString([]byte{1}, s[:api.MaxString])
	if e != api.OK || len(got) != 1+4+api.MaxString || !bytes.Equal(got[:6], []byte{1, 0, 0, 0, 1, 'q'}) || got[len(got)-1] != 'q' {
		t.Error("MaxString", e, len(got))
	}
	if got, e := wire.AppendString([]byte{1}, s); e != api.ErrLong || len(got) != 0 {
		t.Error("one past MaxString", e, len(got))
	}
}

// P1.1
func TestAppendList(t *testing.T) {
	for _, c := range []struct {
		b    []byte
		l    [][]byte
		want []byte
	}{
		{nil, nil, []byte{0, 0, 0, 0}},
		{[]byte{5}, [][]byte{}, []byte{5, 0, 0, 0, 0}},
		{nil, [][]byte{[]byte("a"), nil}, []byte{2, 0, 0, 0, 1, 0, 0, 0, 'a', 0, 0, 0, 0}},
		{[]byte{5}, [][]byte{{}, {1, 2}}, []byte{5, 2, 0, 0, 0, 0, 0, 0, 0, 2, 0, 0, 0, 1, 2}},
	} {
		got, e := wire.AppendList(c.b, c.l...)
		if e != api.OK {
			t.Errorf("%x: %v", c.l, e)
		}
		wantBytes(t, "list", got, c.want)
	}
}

// P1.1: MaxItems strings go, one more does not; nor does one string that is too long, wherever it stands.
func TestAppendListBounds(t *testing.T) {
	l := make([][]byte, api.MaxItems+1)
	got, e := wire.AppendList(nil, l[:api.MaxItems]...)
	if e != api.OK || len(got) != 4+4*api.MaxItems || !bytes.Equal(got[:4], []byte{0, 0, 1, 0}) {
		t.Error("MaxItems", e, len(got))
	}
	if got, e := wire.AppendList([]byte{1}, l...); e != api.ErrLong || len(got) != 0 {
		t.Error("one past MaxItems", e, len(got))
	}
	long := make([]byte, api.MaxString+1)
	if got, e := wire.AppendList(nil, []byte("a"), long[:api.MaxString]); e != api.OK || len(got) != 4+5+4+api.MaxString {
		t.Error("MaxString", e, len(got))
	}
	if got, e := wire.AppendList(nil, long, []byte("a")); e != api.ErrLong || len(got) != 0 {
		t.Error("first too long", e, len(got))
	}
	l[api.MaxItems-1] = long
	if got, e := wire.AppendList(nil, l[:api.MaxItems]...); e != api.ErrLong || len(got) != 0 {
		t.Error("last too long", e, len(got))
	}
}

// P1.1: what is answered is new memory; what is handed in stays as it is, its spare room too.
func TestAppendNewMemory(t *testing.T) {
	for name, call := range appenders() {
		room := bytes.Repeat([]byte{0xee}, 64)
		b := room[:2]
		first := call(b)
		want := bytes.Clone(first)
		second := call(b)
		for i := range room {
			if room[i] != 0xee {
				t.Fatalf("%s wrote to its argument's memory at %d", name, i)
			}
			room[i] = 0x11
		}
		second = second[:cap(second)]
		for i := range second {
			second[i] = 0x22
		}
		wantBytes(t, name, first, want)
	}
}

// P1.1: the string may lie in b's own memory, or behind it.
func TestAppendOwnMemory(t *testing.T) {
	room := []byte("abcdefghij")
	got, e := wire.AppendString(room[:2], room[1:5])
	if e != api.OK || string(room) != "abcdefghij" {
		t.Error(e, string(room))
	}
	wantBytes(t, "string", got, []byte{'a', 'b', 4, 0, 0, 0, 'b', 'c', 'd', 'e'})
	l := [][]byte{room[1:3], room[2:4]}
	got, e = wire.AppendList(room[:1], l...)
	if e != api.OK || string(room) != "abcdefghij" || string(l[0]) != "bc" || string(l[1]) != "cd" {
		t.Error(e, string(room), l)
	}
	wantBytes(t, "list", got, []byte{'a', 2, 0, 0, 0, 2, 0, 0, 0, 'b', 'c', 2, 0, 0, 0, 'c', 'd'})
}
