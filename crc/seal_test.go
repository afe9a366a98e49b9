package crc_test

import (
	"bytes"
	"testing"

	"millrace/api"
	"millrace/crc"
)

func wantBytes(t *testing.T, what string, got, want []byte) {
	t.Helper()
	if !bytes.Equal(got, want) {
		t.Errorf("%s: got %x, want %x", what, got, want)
	}
}

// P2.3: the sum's lowest byte is the first.
func TestSeal(t *testing.T) {
	wantBytes(t, "nil", crc.Seal(nil), []byte{0, 0, 0, 0})
	wantBytes(t, "no bytes", crc.Seal([]byte{}), []byte{0, 0, 0, 0})
	wantBytes(t, "one 0", crc.Seal([]byte{0}), []byte{0, 0x51, 0x53, 0x7d, 0x52})
	wantBytes(t, "digits", crc.Seal([]byte("123456789")), []byte("123456789\x83\x92\x06\xe3"))
	for _, b := range texts() {
		s := sumOf(b)
		want := append(bytes.Clone(b), byte(s), byte(s>>8), byte(s>>16), byte(s>>24))
		wantBytes(t, "sealed", crc.Seal(b), want)
	}
}

// P2.3
func TestOpen(t *testing.T) {
	for _, c := range []struct {
		in, want []byte
		e        api.Errno
	}{
		{[]byte{0, 0, 0, 0}, nil, api.OK},
		{[]byte{0, 0x51, 0x53, 0x7d, 0x52}, []byte{0}, api.OK},
		{[]byte("123456789\x83\x92\x06\xe3"), []byte("123456789"), api.OK},
		{nil, nil, api.ErrShort},
		{[]byte{}, nil, api.ErrShort},
		{[]byte{0}, nil, api.ErrShort},
		{[]byte{0, 0}, nil, api.ErrShort},
		{[]byte{0, 0, 0}, nil, api.ErrShort},
		{[]byte{1, 2, 3}, nil, api.ErrShort},
		{[]byte{0, 0, 0, 1}, nil, api.ErrSum},
		{[]byte{1, 0, 0, 0}, nil, api.ErrSum},
		{[]byte{0, 0, 0, 0, 0}, nil, api.ErrSum},
		{[]byte{0, 0x52, 0x7d, 0x53, 0x51}, nil, api.ErrSum},
		{[]byte("12345678\x83\x92\x06\xe3"), nil, api.ErrSum},
		{[]byte("123456789\x83\x92\x06\xe2"), nil, api.ErrSum},
	} {
		got, e := crc.Open(c.in)
		if e != c.e || e != api.OK && got != nil {
			t.Errorf("%x: got %x, %v, want %v", c.in, got, e, c.e)
		}
		wantBytes(t, "opened", got, c.want)
	}
}

// P2.3: what is answered is new memory; what is handed in stays as it is, its spare room too.
func TestSealNewMemory(t *testing.T) {
	open := func(b []byte) []byte {
		out, e := crc.Open(b)
		if e != api.OK {
			t.Error(e)
		}
		return out
	}
	sealed := crc.Seal([]byte("some bytes"))
	for name, c := range map[string]struct {
		call func([]byte) []byte
		in   []byte
	}{"Seal": {crc.Seal, []byte("some bytes")}, "Open": {open, sealed}} {
		room := append(bytes.Clone(c.in), bytes.Repeat([]byte{0xee}, 32)...)
		before := bytes.Clone(room)
		first := c.call(room[:len(c.in)])
		want := bytes.Clone(first)
		second := c.call(room[:len(c.in)])
		wantBytes(t, name+"'s argument", room, before)
		clear(room)
		second = second[:cap(second)]
		clear(second)
		wantBytes(t, name, first, want)
		for i := range first[:cap(first)] {
			first[:cap(first)][i] = 0x33
		}
		wantBytes(t, name+"'s argument behind it", room, make([]byte, len(room)))
	}
}
