package crc_test

import (
	"bytes"
	"math/rand"
	"slices"
	"testing"

	"millrace/api"
	"millrace/crc"
)

// P2.6: in pieces or in one go the sum is the same, and Combine puts it together, however the text is parted in two.
func TestPartedInTwo(t *testing.T) {
	for _, b := range texts() {
		if len(b) > 300 {
			continue
		}
		whole := crc.Sum(b)
		for n := range len(b) + 1 {
			head, tail := b[:n], b[n:]
			h := crc.New()
			h.Write(head)
			h.Write(tail)
			wantSum(t, "pieces", crc.Sum(head, tail), whole)
			wantSum(t, "More", crc.More(crc.Sum(head), tail...), whole)
			wantSum(t, "Combine", crc.Combine(crc.Sum(head), crc.Sum(tail), len(tail)), whole)
			wantSum(t, "Hash", h.Sum(), whole)
		}
	}
}

// P2.6: and in many pieces, put together from either side.
func TestPartedInMany(t *testing.T) {
	draw := rand.New(rand.NewSource(10))
	for range 200 {
		b := text(draw.Intn(3000), draw.Int63())
		cuts := []int{0, len(b)}
		for range draw.Intn(12) {
			cuts = append(cuts, draw.Intn(len(b)+1))
		}
		slices.Sort(cuts)
		var pieces [][]byte
		h, left, more := crc.New(), uint32(0), uint32(0)
		for i := 1; i < len(cuts); i++ {
			p := b[cuts[i-1]:cuts[i]]
			pieces = append(pieces, p)
			h.Write(p)
			left = crc.Combine(left, crc.Sum(p), len(p))
			more = crc.More(more, p...)
		}
		right, n := uint32(0), 0
		for _, p := range slices.Backward(pieces) {
			right = crc.Combine(crc.Sum(p), right, n)
			n += len(p)
		}
		whole := crc.Sum(b)
		wantSum(t, "pieces", crc.Sum(pieces...), whole)
		wantSum(t, "Hash", h.Sum(), whole)
		wantSum(t, "More", more, whole)
		wantSum(t, "Combine from the left", left, whole)
		wantSum(t, "Combine from the right", right, whole)
		if h.Len() != len(b) {
			t.Errorf("Len: got %d, want %d", h.Len(), len(b))
		}
	}
}

// P2.6: noughts behind a text are put together without them.
func TestZerosBehind(t *testing.T) {
	for _, n := range []int{0, 1, 5, 31, 1000} {
		want := crc.Sum([]byte("text"), make([]byte, n))
		wantSum(t, "noughts behind", crc.Combine(crc.Sum([]byte("text")), crc.Zeros(n), n), want)
	}
}

// P2.6
func TestOpenOfSeal(t *testing.T) {
	for _, b := range texts() {
		got, e := crc.Open(crc.Seal(b))
		if e != api.OK || !bytes.Equal(got, b) {
			t.Errorf("%d bytes: %v", len(b), e)
		}
		twice, e := crc.Open(crc.Seal(crc.Seal(b)))
		if e != api.OK || !bytes.Equal(twice, crc.Seal(b)) {
			t.Errorf("%d bytes, sealed twice: %v", len(b), e)
		}
	}
}

// turned is b with the bits of the pattern turned, from the bit at on; it is nil, if the pattern goes beyond b.
func turned(b []byte, at int, pattern uint32) []byte {
	out := bytes.Clone(b)
	for k := range 32 {
		if pattern>>k&1 == 0 {
			continue
		}
		if at+k >= 8*len(b) {
			return nil
		}
		out[(at+k)/8] ^= 1 << ((at + k) % 8)
	}
	return out
}

// patterns are bursts of all lengths from 1 to 32 bits: their two ends alone, all bits, and any between.
func patterns() []uint32 {
	draw := rand.New(rand.NewSource(11))
	l := []uint32{0x82f63b78, 0x05ec76f1}
	for n := range 32 {
		ends := uint32(1)<<n | 1
		l = append(l, ends, uint32(1)<<n, ends|(uint32(1)<<n-1))
		for range 4 {
			l = append(l, ends|draw.Uint32()&(uint32(1)<<n-1))
		}
	}
	return l
}

// P2.6: sealed bytes in which one burst was turned, in the text, in the sum or over both, are refused.
func TestBurstRefused(t *testing.T) {
	for _, b := range [][]byte{nil, {0}, []byte("ab"), make([]byte, 9), text(17, 12)} {
		sealed := crc.Seal(b)
		for at := range 8 * len(sealed) {
			for _, p := range patterns() {
				wrong := turned(sealed, at, p)
				if wrong == nil {
					continue
				}
				first, last, ok := crc.Burst(sealed, wrong)
				if !ok || last-first > 31 {
					t.Fatalf("no burst: %d %d %v", first, last, ok)
				}
				if got, e := crc.Open(wrong); e != api.ErrSum || got != nil {
					t.Fatalf("%x, turned to %x: %x, %v", sealed, wrong, got, e)
				}
			}
		}
	}
}

// P2.6: unlike sums of two texts that differ by one burst.
func TestBurstUnlike(t *testing.T) {
	b := text(40, 13)
	sum := crc.Sum(b)
	for at := range 8 * len(b) {
		for _, p := range patterns() {
			if other := turned(b, at, p); other != nil && crc.Sum(other) == sum {
				t.Fatalf("the bits %x turned at %d: one sum", p, at)
			}
		}
	}
}

// P2.6: a burst of 33 bits may go unseen, so the bound of 32 is the true one: turning the polynomial itself leaves the sum as it was.
func TestBurstTooLong(t *testing.T) {
	b := text(20, 14)
	other := turned(b, 16, 0x05ec76f1)
	other[48/8] ^= 1
	if first, last, _ := crc.Burst(b, other); last-first != 32 {
		t.Fatal(first, last)
	}
	wantSum(t, "33 bits", crc.Sum(other), crc.Sum(b))
}

// P2.6: the sum of a xor of three texts of one length.
func TestSumOfXor(t *testing.T) {
	for _, n := range []int{0, 1, 2, 3, 4, 5, 31, 32, 33, 1000} {
		a, b, c := text(n, 15), text(n, 16), text(n, 17)
		all := make([]byte, n)
		for i := range all {
			all[i] = a[i] ^ b[i] ^ c[i]
		}
		wantSum(t, "xor", crc.Sum(all), crc.Sum(a)^crc.Sum(b)^crc.Sum(c))
	}
}
