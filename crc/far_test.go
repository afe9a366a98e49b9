package crc_test

import (
	"math"
	"testing"

	"millrace/crc"
)

// round is behind how many bytes 0 each number is what it was: the polynomial is x + 1 times one of degree 31 whose steps come round behind 2^31 - 1 of them; that is prime, so eight at a time come round behind as many.
const round = 1<<31 - 1

// far are counts that nobody goes through one by one, all of them a little over some rounds.
func far() []int {
	return []int{round, round + 1, round + 32, 2*round + 5, 1 << 31, 1 << 32, 1<<32 + 1, 1 << 40, 1 << 62, 1<<62 + 1<<31, 1<<62 - 1, math.MaxInt, math.MaxInt - 1}
}

func numbers() []uint32 {
	return []uint32{0, 1, 2, 0x82f63b78, 0xe3069283, 1 << 31, 1<<32 - 1}
}

// P2.2
func TestZeros(t *testing.T) {
	wantSum(t, "0", crc.Zeros(0), 0)
	wantSum(t, "1", crc.Zeros(1), 0x527d5351)
	wantSum(t, "32", crc.Zeros(32), 0x8a9136aa)
	zeros := make([]byte, 70000)
	for n := range 300 {
		wantSum(t, "short", crc.Zeros(n), sumOf(zeros[:n]))
	}
	for _, n := range []int{4095, 4096, 65535, 65536, 65537, 70000} {
		wantSum(t, "long", crc.Zeros(n), sumOf(zeros[:n]))
	}
}

// P2.2: below 0 as 0.
func TestZerosBelow(t *testing.T) {
	for _, n := range []int{-1, -2, -8, -32, -1 << 31, -1 << 62, math.MinInt + 1, math.MinInt} {
		wantSum(t, "below 0", crc.Zeros(n), 0)
	}
}

// P2.2: very great ones, which are quick.
func TestZerosFar(t *testing.T) {
	for _, n := range far() {
		if got, want := crc.Zeros(n), sumOf(make([]byte, n%round)); got != want {
			t.Errorf("%d: got %08x, want %08x", n, got, want)
		}
	}
	for n := 1; n > 0; n = 2*n + 1 {
		half := n / 2
		wantSum(t, "in two parts", crc.Zeros(n), crc.Combine(crc.Zeros(half), crc.Zeros(n-half), n-half))
	}
}

// P2.2: a behind 8 n steps, xor b, of any a and b.
func TestCombine(t *testing.T) {
	wantSum(t, "digits", crc.Combine(crc.Sum([]byte("1234")), crc.Sum([]byte("56789")), 5), 0xe3069283)
	for _, a := range numbers() {
		for _, b := range numbers() {
			for n := range 40 {
				wantSum(t, "any", crc.Combine(a, b, n), stepsOf(a, 8*n)^b)
			}
			wantSum(t, "1000", crc.Combine(a, b, 1000), stepsOf(a, 8000)^b)
		}
	}
	for k := range 32 {
		wantSum(t, "one bit", crc.Combine(1<<k, 0, 1), stepsOf(1<<k, 8))
		wantSum(t, "one bit", crc.Combine(0, 1<<k, 1), 1<<k)
	}
}

// P2.2: below 0 as 0.
func TestCombineBelow(t *testing.T) {
	for _, a := range numbers() {
		for _, b := range numbers() {
			for _, n := range []int{0, -1, -5, -1 << 31, math.MinInt + 1, math.MinInt} {
				wantSum(t, "below 0", crc.Combine(a, b, n), a^b)
			}
		}
	}
}

// P2.2: very great ones, which are quick.
func TestCombineFar(t *testing.T) {
	for _, n := range far() {
		for _, a := range numbers() {
			if got, want := crc.Combine(a, 77, n), stepsOf(a, 8*(n%round))^77; got != want {
				t.Errorf("%08x, %d: got %08x, want %08x", a, n, got, want)
			}
		}
	}
}
