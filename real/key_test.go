package real_test

import (
	"bytes"
	"encoding/binary"
	"math"
	"testing"

	"millrace/api"
	"millrace/real"
)

// keyOf is the key as the chapter's words say.
func keyOf(x float64) (k [8]byte) {
	b := math.Float64bits(x)
	switch {
	case math.IsNaN(x):
		b = math.MaxUint64
	case math.Signbit(x):
		b = ^b
	default:
		b += 1 << 63
	}
	binary.BigEndian.PutUint64(k[:], b)
	return k
}

// keyed is the key of that whole number, if there is one.
func keyed(place uint64) (k [8]byte) {
	binary.BigEndian.PutUint64(k[:], place)
	return k
}

func wantKey(t *testing.T, x float64, want [8]byte) {
	t.Helper()
	if k := real.Key(x); k != want {
		t.Errorf("Key(%v): got %x, want %x", x, k, want)
	}
}

// P3.2
func TestKeyExamples(t *testing.T) {
	wantKey(t, 1, [8]byte{0xbf, 0xf0})
	wantKey(t, math.Copysign(0, -1), [8]byte{0x7f, 255, 255, 255, 255, 255, 255, 255})
	wantKey(t, 0, [8]byte{0x80})
	wantKey(t, math.Inf(-1), [8]byte{0, 0x0f, 255, 255, 255, 255, 255, 255})
	wantKey(t, math.Inf(1), [8]byte{255, 0xf0})
	wantKey(t, 5e-324, [8]byte{0x80, 0, 0, 0, 0, 0, 0, 1})
	wantKey(t, -math.MaxFloat64, [8]byte{0, 0x10})
}

// P3.2
func TestKey(t *testing.T) {
	for _, x := range append(ladder(), anyFloats(2000, 2)...) {
		wantKey(t, x, keyOf(x))
	}
}

// P3.2: NaNs of unlike bits have one key.
func TestKeyOfNaNs(t *testing.T) {
	for _, x := range nans() {
		wantKey(t, x, keyed(math.MaxUint64))
	}
}

// P3.2
func TestOf(t *testing.T) {
	for _, want := range append(ladder(), anyFloats(2000, 3)...) {
		x, e := real.Of(keyOf(want))
		wantErr(t, "Of", e, api.OK)
		wantFloat(t, "Of", x, want)
	}
}

// P3.2: the bits of NaNs would take these places; none but the last one of all is a key.
func TestOfNoKey(t *testing.T) {
	const below, above = 0x000fffffffffffff, 0xfff0000000000000 // those of the infinities
	l := []uint64{above + 1, above + 2, above + 1<<51, above + 1<<51 + 1, math.MaxUint64 - 1, 0, 1, 1 << 51, below - 1<<51, below - 2, below - 1}
	for i := range 52 {
		l = append(l, above+1<<i, below-1<<i)
	}
	for _, place := range l {
		x, e := real.Of(keyed(place))
		wantErr(t, "Of", e, api.ErrReal)
		wantFloat(t, "beside ErrReal", x, 0)
	}
}

// P3.2
func TestAppendKey(t *testing.T) {
	for _, x := range append(ladder(), nans()...) {
		k := keyOf(x)
		for _, b := range [][]byte{nil, {}, {1}, {0, 255, 7}, bytes.Repeat([]byte{9}, 100)} {
			want := append(bytes.Clone(b), k[:]...)
			if got := real.AppendKey(b, x); !bytes.Equal(got, want) {
				t.Errorf("AppendKey(%x, %v): got %x, want %x", b, x, got, want)
			}
		}
	}
}

// P3.2: neither what is handed in nor its spare room is changed, nor shared by what is answered.
func TestAppendKeyNewMemory(t *testing.T) {
	whole := bytes.Repeat([]byte{0x55}, 64)
	for n := range 40 {
		out := real.AppendKey(whole[:n], 1)
		again := real.AppendKey(whole[:n], 1)
		for i := range out[:cap(out)] {
			out[:cap(out)][i] = 0xee
		}
		k := keyOf(1)
		if want := append(bytes.Repeat([]byte{0x55}, n), k[:]...); !bytes.Equal(again, want) {
			t.Errorf("%d: another answer is %x", n, again)
		}
		if !bytes.Equal(whole, bytes.Repeat([]byte{0x55}, 64)) {
			t.Fatalf("%d: what was handed in is %x", n, whole)
		}
	}
}
