package crc_test

import (
	"bytes"
	"hash/crc32"
	"math/rand"
	"testing"

	"millrace/crc"
)

// stepsOf does n steps one by one, as the chapter's words say.
func stepsOf(x uint32, n int) uint32 {
	for range n {
		half := x / 2
		if x%2 == 1 {
			half ^= 2197175160
		}
		x = half
	}
	return x
}

// sumOf is the sum as the chapter's words say.
func sumOf(b []byte) uint32 {
	x := uint32(1<<32 - 1)
	for _, c := range b {
		x = stepsOf(x^uint32(c), 8)
	}
	return ^x
}

// text is n bytes that hang on n and seed alone.
func text(n int, seed int64) []byte {
	b := make([]byte, n)
	rand.New(rand.NewSource(seed)).Read(b)
	return b
}

// texts are some of all kinds: short and long, of one byte over and over, of any.
func texts() [][]byte {
	l := [][]byte{nil, {}, {0}, {1}, {0x80}, {255}, []byte("a"), []byte("123456789"), make([]byte, 64), bytes.Repeat([]byte{255}, 64)}
	for n := 1; n < 40; n++ {
		l = append(l, text(n, int64(n)))
	}
	return append(l, text(255, 1), text(256, 2), text(257, 3), text(1<<12, 4), text(70001, 5))
}

func wantSum(t *testing.T, what string, got, want uint32) {
	t.Helper()
	if got != want {
		t.Errorf("%s: got %08x, want %08x", what, got, want)
	}
}

// P2.1
func TestTable(t *testing.T) {
	table := crc.Table()
	wantSum(t, "0", table[0], 0)
	wantSum(t, "1", table[1], 0xf26b8303)
	wantSum(t, "128", table[128], 0x82f63b78)
	wantSum(t, "255", table[255], 0xad7d5351)
	for i, x := range table {
		if want := stepsOf(uint32(i), 8); x != want {
			t.Errorf("%d: got %08x, want %08x", i, x, want)
		}
	}
}

// P2.1: each call answers a table of its own.
func TestTableOwn(t *testing.T) {
	first := crc.Table()
	want := first
	first[7] = 1
	if crc.Table() != want {
		t.Error("a changed table is told again")
	}
}

// P2.1: what others found CRC-32C to be (RFC 3720, B.4, and the check of 123456789).
func TestSumKnown(t *testing.T) {
	rising, falling := make([]byte, 32), make([]byte, 32)
	for i := range rising {
		rising[i], falling[i] = byte(i), byte(31-i)
	}
	for _, c := range []struct {
		what string
		b    []byte
		want uint32
	}{
		{"nil", nil, 0},
		{"no bytes", []byte{}, 0},
		{"digits", []byte("123456789"), 0xe3069283},
		{"one 0", []byte{0}, 0x527d5351},
		{"32 of 0", make([]byte, 32), 0x8a9136aa},
		{"32 of 255", bytes.Repeat([]byte{255}, 32), 0x62a8ab43},
		{"rising", rising, 0x46dd794e},
		{"falling", falling, 0x113fdb5c},
	} {
		wantSum(t, c.what, crc.Sum(c.b), c.want)
	}
	wantSum(t, "nothing", crc.Sum(), 0)
	wantSum(t, "only nil", crc.Sum(nil, nil, []byte{}), 0)
}

// P2.1
func TestSum(t *testing.T) {
	castagnoli := crc32.MakeTable(crc32.Castagnoli)
	for _, b := range texts() {
		got := crc.Sum(b)
		if got != sumOf(b) || got != crc32.Checksum(b, castagnoli) {
			t.Errorf("%d bytes: got %08x, want %08x", len(b), got, sumOf(b))
		}
	}
	for c := range 256 {
		wantSum(t, "one byte", crc.Sum([]byte{byte(c)}), sumOf([]byte{byte(c)}))
	}
}

// P2.1: many pieces are one text, whichever of them are empty.
func TestSumPieces(t *testing.T) {
	wantSum(t, "two", crc.Sum([]byte("1234"), []byte("56789")), 0xe3069283)
	wantSum(t, "turned round", crc.Sum([]byte("56789"), []byte("1234")), sumOf([]byte("567891234")))
	wantSum(t, "with empty ones", crc.Sum(nil, []byte("1"), []byte{}, []byte("2345678"), nil, []byte("9"), nil), 0xe3069283)
	l := texts()
	wantSum(t, "all texts", crc.Sum(l...), sumOf(bytes.Join(l, nil)))
	b := []byte("1234567")
	wantSum(t, "one piece twice", crc.Sum(b[2:4], b[2:4], b[3:5]), sumOf([]byte("343445")))
}

// P2.1
func TestMore(t *testing.T) {
	wantSum(t, "0 behind nothing", crc.More(0, 0), 0x527d5351)
	wantSum(t, "nothing behind nothing", crc.More(0), 0)
	wantSum(t, "digits", crc.More(crc.Sum([]byte("1234")), '5', '6', '7', '8', '9'), 0xe3069283)
	for _, b := range texts() {
		for _, n := range []int{0, 1, len(b) / 2, len(b)} {
			n = min(n, len(b))
			wantSum(t, "more", crc.More(sumOf(b[:n]), b[n:]...), sumOf(b))
		}
	}
}

// P2.1: s may be any number, sum or not: turned, gone into, turned again.
func TestMoreOfAny(t *testing.T) {
	for _, s := range []uint32{0, 1, 0x82f63b78, 1 << 31, 1<<32 - 2, 1<<32 - 1, 12345} {
		wantSum(t, "nothing", crc.More(s), s)
		wantSum(t, "nil", crc.More(s, []byte(nil)...), s)
		for _, b := range [][]byte{{0}, {255}, []byte("abc"), text(50, 6)} {
			x := ^s
			for _, c := range b {
				x = stepsOf(x^uint32(c), 8)
			}
			wantSum(t, "any", crc.More(s, b...), ^x)
		}
	}
}

// P2.1: what is handed in stays as it is, spare room included.
func TestSumLeavesArguments(t *testing.T) {
	room := text(64, 7)
	want := bytes.Clone(room)
	l := [][]byte{room[:3], nil, room[10:20]}
	crc.Sum(l...)
	crc.More(5, room[:9]...)
	if !bytes.Equal(room, want) || len(l[0]) != 3 || l[1] != nil || len(l[2]) != 10 {
		t.Error("arguments are changed")
	}
}
