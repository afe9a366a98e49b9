package real_test

import (
	"math"
	"math/rand"
	"testing"

	"millrace/api"
	"millrace/real"
)

func of(bits uint64) float64 { return math.Float64frombits(bits) }

// nans are NaNs of unlike bits: of both signs, that signal and that do not.
func nans() []float64 {
	return []float64{math.NaN(), of(0x7ff0000000000001), of(0x7ff7ffffffffffff), of(0x7ff8000000000000), of(0x7fffffffffffffff), of(0xfff0000000000001), of(0xfff8000000000000), of(0xffffffffffffffff)}
}

// ladder is floats each ahead of the one behind it, with all the edges that the chapter has. They are written down in order, not sorted.
func ladder() []float64 {
	above := []float64{0, 5e-324, 1e-323, of(0x000fffffffffffff), of(0x0010000000000000), of(0x0010000000000001), 1e-300, 0.1, 0.5, 0.75, of(0x3fefffffffffffff), 1, of(0x3ff0000000000001), 1.5, 2, 3, 6, 1 << 52, 1<<53 - 1, 1 << 53, 1<<53 + 2, 1e300, of(0x7feffffffffffffe), math.MaxFloat64, math.Inf(1)}
	var l []float64
	for i := len(above) - 1; i >= 0; i-- {
		l = append(l, math.Copysign(above[i], -1))
	}
	return append(append(l, above...), math.NaN())
}

// anyFloats is n floats of any bits, NaNs among them; they hang on seed alone.
func anyFloats(n int, seed int64) []float64 {
	draw := rand.New(rand.NewSource(seed))
	l := make([]float64, n)
	for i := range l {
		b := draw.Uint64()
		switch draw.Intn(8) {
		case 0:
			b |= 0x7ff << 52 // an infinity or a NaN
			b &= ^uint64(0) << draw.Intn(53)
		case 1:
			b &^= 0x7ff << 52 // not a normal one
		case 2:
			b &= ^uint64(0) << draw.Intn(64) // few bits
		}
		l[i] = of(b)
	}
	return l
}

func side(i, j int) int {
	if i < j {
		return -1
	}
	if i > j {
		return 1
	}
	return 0
}

// wantFloat holds x against want by bits, but that all NaNs are one.
func wantFloat(t *testing.T, what string, x, want float64) {
	t.Helper()
	if math.IsNaN(x) && math.IsNaN(want) {
		return
	}
	if math.Float64bits(x) != math.Float64bits(want) {
		t.Errorf("%s: got %v (%016x), want %v (%016x)", what, x, math.Float64bits(x), want, math.Float64bits(want))
	}
}

func wantErr(t *testing.T, what string, got, want api.Errno) {
	t.Helper()
	if got != want {
		t.Errorf("%s: got %v, want %v", what, got, want)
	}
}

func wantOrder(t *testing.T, x, y float64, want int) {
	t.Helper()
	if got := real.Order(x, y); got != want {
		t.Errorf("Order(%v, %v): got %d, want %d", x, y, got, want)
	}
	if got := real.Like(x, y); got != (want == 0) {
		t.Errorf("Like(%v, %v): got %v", x, y, got)
	}
}

// P3.1
func TestOrderExamples(t *testing.T) {
	wantOrder(t, math.Copysign(0, -1), 0, -1)
	wantOrder(t, math.NaN(), math.Inf(1), 1)
	wantOrder(t, math.NaN(), math.NaN(), 0)
	wantOrder(t, math.Inf(-1), -1, -1)
}

// P3.1
func TestOrderOfLadder(t *testing.T) {
	l := ladder()
	for i, x := range l {
		for j, y := range l {
			wantOrder(t, x, y, side(i, j))
		}
	}
}

// P3.1: all NaNs are alike, whatever their bits, and behind all else.
func TestOrderOfNaNs(t *testing.T) {
	for _, x := range nans() {
		for _, y := range nans() {
			wantOrder(t, x, y, 0)
		}
		for _, y := range ladder()[:len(ladder())-1] {
			wantOrder(t, x, y, 1)
			wantOrder(t, y, x, -1)
		}
	}
}

// P3.1: where the language's own < and > tell floats apart, the order is theirs.
func TestOrderAsBelow(t *testing.T) {
	l := anyFloats(400, 1)
	for _, x := range l {
		for _, y := range l {
			if x < y {
				wantOrder(t, x, y, -1)
			}
			if x > y {
				wantOrder(t, x, y, 1)
			}
			if x == y && x != 0 {
				wantOrder(t, x, y, 0)
			}
		}
	}
}
