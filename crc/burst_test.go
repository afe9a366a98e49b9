package crc_test

import (
	"bytes"
	"testing"

	"millrace/crc"
)

func wantBurst(t *testing.T, a, b []byte, first, last int, ok bool) {
	t.Helper()
	f, l, o := crc.Burst(a, b)
	if f != first || l != last || o != ok {
		t.Errorf("%x, %x: got %d %d %v, want %d %d %v", a, b, f, l, o, first, last, ok)
	}
}

// P2.4
func TestBurst(t *testing.T) {
	wantBurst(t, []byte{0, 1}, []byte{0x80, 3}, 7, 9, true)
	wantBurst(t, []byte{0x80, 3}, []byte{0, 1}, 7, 9, true)
	wantBurst(t, []byte{0}, []byte{1}, 0, 0, true)
	wantBurst(t, []byte{0}, []byte{0x80}, 7, 7, true)
	wantBurst(t, []byte{0xff}, []byte{0}, 0, 7, true)
	wantBurst(t, []byte{0x0f}, []byte{0x2b}, 2, 5, true)
	wantBurst(t, []byte{1, 2, 3, 4}, []byte{1, 2, 3, 0x84}, 31, 31, true)
	wantBurst(t, []byte{1, 2, 3, 4, 5}, []byte{1, 0, 3, 4, 4}, 9, 32, true)
	wantBurst(t, []byte{0, 0, 0}, []byte{8, 255, 0x10}, 3, 20, true)
}

// P2.4: texts that are equal, of unlike lengths, or both.
func TestNoBurst(t *testing.T) {
	wantBurst(t, nil, nil, 0, 0, false)
	wantBurst(t, nil, []byte{}, 0, 0, false)
	wantBurst(t, []byte{0}, []byte{0}, 0, 0, false)
	wantBurst(t, []byte("same text"), []byte("same text"), 0, 0, false)
	wantBurst(t, nil, []byte{1}, 0, 0, false)
	wantBurst(t, []byte{1}, nil, 0, 0, false)
	wantBurst(t, []byte{1, 2}, []byte{1, 2, 3}, 0, 0, false)
	wantBurst(t, []byte{1, 2, 3}, []byte{1, 9}, 0, 0, false)
	wantBurst(t, []byte{9, 2}, []byte{1, 2, 3}, 0, 0, false)
}

// P2.4: each pair of bits of a text, turned.
func TestBurstAll(t *testing.T) {
	a := text(9, 8)
	for first := range 8 * len(a) {
		for last := first; last < 8*len(a); last++ {
			b := bytes.Clone(a)
			b[first/8] ^= 1 << (first % 8)
			if last > first {
				b[last/8] ^= 1 << (last % 8)
			}
			wantBurst(t, a, b, first, last, true)
		}
	}
	if !bytes.Equal(a, text(9, 8)) {
		t.Error("the argument is changed")
	}
}
