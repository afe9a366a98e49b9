package record_test

import (
	"bytes"
	"math/rand"
	"slices"
	"testing"

	"millrace/api"
	"millrace/record"
)

// P5.6: Read of Put is the batch, and all its bytes, with anything put behind it, too.
func TestThereAndBack(t *testing.T) {
	r := rand.New(rand.NewSource(56))
	check := func(what string, x api.Batch) {
		t.Helper()
		b := put(t, x)
		wantBatch(t, what, b, 0, x, len(b))
		behind := make([]byte, 1+r.Intn(50))
		r.Read(behind)
		wantBatch(t, what, slices.Concat(b, behind), 0, x, len(b))
		wantBatch(t, what, slices.Concat(b, b), len(b), x, len(b))
	}
	for name, x := range batches() {
		check(name, x)
	}
	for range 2000 {
		check("drawn", drawn(r, 10))
	}
}

// P5.6: each beginning of at least one byte, and not all, is torn.
func TestEachBeginning(t *testing.T) {
	for name, x := range batches() {
		b := put(t, x)
		for n := 1; n < len(b); n++ {
			if e := errorOf(b[:n]); e != api.ErrTorn {
				t.Fatalf("%s: first %d of %d: %v", name, n, len(b), e)
			}
		}
		wantNone(t, name, b[:0], 0, api.ErrEnd)
	}
}

// errorOf is what both Read and Look answer, or -1, if they answer two things.
func errorOf(b []byte) api.Errno {
	_, _, e := record.Read(b, 0)
	if _, _, _, f := record.Look(b, 0); e != f {
		return -1
	}
	return e
}

// P5.6: one byte changed, in any place, to anything, is never read as the batch that it was.
func TestEachByteChanged(t *testing.T) {
	for name, x := range batches() {
		b := put(t, x)
		if len(b) > 200 {
			continue
		}
		for _, behind := range [][]byte{nil, make([]byte, 300), bytes.Repeat(b, 9)} {
			for place := range b {
				for change := 1; change < 256; change++ {
					other := slices.Concat(b, behind)
					other[place] ^= byte(change)
					got, n, e := record.Read(other, 0)
					want, size, f := stands(other, 0)
					if e != f || n != size || !same(got, want) || e == api.OK && same(got, x) {
						t.Fatalf("%s: byte %d: %v, want %v", name, place, e, f)
					}
					if place >= 4 && e != api.ErrCorrupt {
						t.Fatalf("%s: byte %d: %v", name, place, e)
					}
				}
			}
		}
	}
}

// P5.6: the same of great batches, at some places.
func TestGreatByteChanged(t *testing.T) {
	r := rand.New(rand.NewSource(57))
	for name, x := range batches() {
		b := put(t, x)
		for range 40 {
			place := r.Intn(len(b))
			other := bytes.Clone(b)
			other[place] ^= byte(1 + r.Intn(255))
			if got, _, e := record.Read(other, 0); e == api.OK || e == api.ErrTorn && place >= 4 || len(got.Records) > 0 {
				t.Errorf("%s: byte %d: %v", name, place, e)
			}
		}
	}
}

// P5.6: what Read takes has just the bytes that Put makes of it, whoever made them.
func TestBackAndThere(t *testing.T) {
	r := rand.New(rand.NewSource(58))
	taken := 0
	for range 30000 {
		behind := batchBytes(drawn(r, 3))[8:]
		for range r.Intn(4) {
			behind[r.Intn(len(behind))] = byte(r.Intn(4))
		}
		b := slices.Concat(sealed(behind), make([]byte, r.Intn(3)))
		x, n, e := record.Read(b, 0)
		if e != api.OK {
			continue
		}
		taken++
		if !bytes.Equal(put(t, x), b[:n]) {
			t.Errorf("%x", b)
		}
	}
	if taken < 3000 {
		t.Error(taken)
	}
}

// P5.3, P5.4, P5.6: any bytes, held to what the chapter says of them.
func FuzzRead(f *testing.F) {
	for _, x := range batches() {
		if b := batchBytes(x); len(b) < 200 {
			f.Add(b)
			f.Add(b[:len(b)-1])
		}
	}
	f.Add([]byte{27, 0, 0, 0})
	f.Fuzz(func(t *testing.T, b []byte) {
		wantStands(t, "fuzzed", b, 0)
		if len(b) > 8 {
			wantStands(t, "fuzzed, sealed", sealed(b[8:]), 0)
		}
		l, want := walked(b, 0)
		wantWalk(t, "fuzzed", b, 0, want)
		wantAll(t, "fuzzed", record.All(b), l)
	})
}
