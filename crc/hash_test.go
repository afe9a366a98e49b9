package crc_test

import (
	"bytes"
	"testing"

	"millrace/api"
	"millrace/crc"
)

func wantHash(t *testing.T, what string, h *crc.Hash, b []byte) {
	t.Helper()
	if h.Sum() != sumOf(b) || h.Len() != len(b) {
		t.Errorf("%s: got %08x of %d, want %08x of %d", what, h.Sum(), h.Len(), sumOf(b), len(b))
	}
}

func write(t *testing.T, h *crc.Hash, l ...string) {
	t.Helper()
	var pieces [][]byte
	for _, s := range l {
		pieces = append(pieces, []byte(s))
	}
	if e := h.Write(pieces...); e != api.OK {
		t.Error(e)
	}
}

// P2.5
func TestHash(t *testing.T) {
	h := crc.New()
	wantHash(t, "new", h, nil)
	write(t, h)
	write(t, h, "", "")
	wantHash(t, "no bytes", h, nil)
	write(t, h, "1234")
	wantHash(t, "one", h, []byte("1234"))
	wantHash(t, "asked again", h, []byte("1234"))
	write(t, h, "5", "", "678")
	wantHash(t, "three", h, []byte("12345678"))
	write(t, h, "9")
	wantSum(t, "digits", h.Sum(), 0xe3069283)
	wantHash(t, "digits", h, []byte("123456789"))
	h.Write(text(100000, 9))
	wantHash(t, "long", h, append([]byte("123456789"), text(100000, 9)...))
}

// P2.5: as new, and it goes on from there.
func TestHashReset(t *testing.T) {
	h := crc.New()
	for range 2 {
		write(t, h, "abc", "d")
		wantHash(t, "written", h, []byte("abcd"))
		for range 2 {
			if e := h.Reset(); e != api.OK {
				t.Error(e)
			}
			wantHash(t, "reset", h, nil)
		}
	}
}

// P2.5: copies go on apart, whichever of them is written to, reset or copied.
func TestHashCopy(t *testing.T) {
	h := crc.New()
	write(t, h, "1234")
	c := h.Copy()
	d := c.Copy()
	if c == h || d == c {
		t.Error("not another one")
	}
	wantHash(t, "copy", c, []byte("1234"))
	write(t, c, "56")
	wantHash(t, "the first behind a write to the copy", h, []byte("1234"))
	write(t, h, "xyz")
	wantHash(t, "the copy behind a write to the first", c, []byte("123456"))
	write(t, c, "789")
	wantSum(t, "digits", c.Sum(), 0xe3069283)
	h.Reset()
	wantHash(t, "the copy behind a reset of the first", c, []byte("123456789"))
	c.Reset()
	wantHash(t, "the copy's copy", d, []byte("1234"))
	write(t, d, "5")
	wantHash(t, "the copy's copy", d, []byte("12345"))
	wantHash(t, "a new one's copy", crc.New().Copy(), nil)
}

// P2.5: news are apart, too.
func TestHashNewApart(t *testing.T) {
	a, b := crc.New(), crc.New()
	write(t, a, "a")
	wantHash(t, "the other", b, nil)
}

// P2.5
func TestHashNil(t *testing.T) {
	var h *crc.Hash
	if h.Sum() != 0 || h.Len() != 0 {
		t.Error("Sum, Len", h.Sum(), h.Len())
	}
	if e := h.Write(); e != api.ErrNil {
		t.Error("Write of nothing", e)
	}
	if e := h.Write([]byte("a"), nil); e != api.ErrNil {
		t.Error("Write", e)
	}
	if e := h.Reset(); e != api.ErrNil {
		t.Error("Reset", e)
	}
	if c := h.Copy(); c != nil {
		t.Error("Copy", c)
	}
}

// P2.5: a zero Hash is as a new one.
func TestHashZero(t *testing.T) {
	var h, r, k crc.Hash
	wantHash(t, "zero", &h, nil)
	write(t, &h, "1234", "56789")
	wantHash(t, "written", &h, []byte("123456789"))
	if e := r.Reset(); e != api.OK {
		t.Error(e)
	}
	write(t, &r, "a")
	wantHash(t, "reset", &r, []byte("a"))
	c := k.Copy()
	if c == nil {
		t.Fatal("no copy of a zero Hash")
	}
	write(t, c, "b")
	wantHash(t, "copied", c, []byte("b"))
	wantHash(t, "its first", &k, nil)
}

// P2.5: what is written is neither kept nor changed.
func TestHashKeepsNothing(t *testing.T) {
	room := []byte("abcdefgh")
	h := crc.New()
	h.Write(room[:3], room[2:4])
	if string(room) != "abcdefgh" {
		t.Error("the argument is changed")
	}
	clear(room)
	wantHash(t, "behind a change of the argument", h, []byte("abccd"))
	h.Write([]byte("d"))
	wantHash(t, "one more", h, bytes.Join([][]byte{[]byte("abc"), []byte("cdd")}, nil))
}
