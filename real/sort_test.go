package real_test

import (
	"math"
	"math/rand"
	"slices"
	"testing"

	"millrace/api"
	"millrace/real"
)

func wantFloats(t *testing.T, what string, got, want []float64) {
	t.Helper()
	if len(got) != len(want) {
		t.Fatalf("%s: got %d floats, want %d", what, len(got), len(want))
	}
	for i := range got {
		wantFloat(t, what, got[i], want[i])
	}
}

func wantSort(t *testing.T, what string, l, want []float64) {
	t.Helper()
	got, e := real.Sort(l...)
	wantErr(t, what, e, api.OK)
	wantFloats(t, what, got, want)
}

// mixed is l in another order, that hangs on seed alone.
func mixed(l []float64, seed int64) []float64 {
	out := slices.Clone(l)
	rand.New(rand.NewSource(seed)).Shuffle(len(out), func(i, j int) { out[i], out[j] = out[j], out[i] })
	return out
}

// repeated is each of l, so many times.
func repeated(l []float64, times int) []float64 {
	var out []float64
	for _, x := range l {
		for range times {
			out = append(out, x)
		}
	}
	return out
}

// lists are lists in order, of all lengths up to twenty and some longer ones, with floats that are there more than once.
func lists() [][]float64 {
	out := [][]float64{nil, {}, ladder(), repeated(ladder(), 3)}
	for n := 1; n <= 20; n++ {
		var l []float64
		for i := range n {
			l = append(l, float64(i/2*2))
		}
		out = append(out, l, ladder()[:n], ladder()[len(ladder())-n:])
	}
	return out
}

// P3.4
func TestSort(t *testing.T) {
	negative := math.Copysign(0, -1)
	wantSort(t, "example", []float64{1, math.NaN(), negative, 0, math.Inf(-1)}, []float64{math.Inf(-1), negative, 0, 1, math.NaN()})
	wantSort(t, "NaNs", append(nans(), 1), append([]float64{1}, nans()...))
	for i, want := range lists() {
		for seed := range int64(10) {
			wantSort(t, "mixed", mixed(want, seed+int64(i)), want)
		}
		turned := slices.Clone(want)
		slices.Reverse(turned)
		wantSort(t, "turned round", turned, want)
		wantSort(t, "in order", want, want)
	}
}

// P3.4: none, as many as may be, one more.
func TestSortBounds(t *testing.T) {
	if l, e := real.Sort(); len(l) != 0 || e != api.OK {
		t.Errorf("none: %v %v", l, e)
	}
	want := make([]float64, api.MaxFloats)
	for i := range want {
		want[i] = float64(i) - 1000
	}
	wantSort(t, "MaxFloats", mixed(want, 1), want)
	for _, n := range []int{api.MaxFloats + 1, 3 * api.MaxFloats} {
		if l, e := real.Sort(make([]float64, n)...); len(l) != 0 || e != api.ErrLong {
			t.Errorf("%d: %d floats, %v", n, len(l), e)
		}
	}
}

// P3.4: what is handed in stays as it is, spare room included, and what is answered shares nothing with it.
func TestSortNewMemory(t *testing.T) {
	for _, n := range []int{1, 2, 3, 50} {
		whole := mixed(ladder(), 9)
		before := slices.Clone(whole)
		out, _ := real.Sort(whole[:n]...)
		again, _ := real.Sort(whole[:n]...)
		kept := slices.Clone(again)
		for i := range out[:cap(out)] {
			out[:cap(out)][i] = 77
		}
		wantFloats(t, "handed in", whole, before)
		wantFloats(t, "another answer", again, kept)
		whole[0] = 78
		wantFloats(t, "answered", again, kept)
	}
}

// firstNotAhead looks from the front on, float by float.
func firstNotAhead(l []float64, x float64) int {
	for i, y := range l {
		if real.Order(y, x) >= 0 {
			return i
		}
	}
	return len(l)
}

func wantSearch(t *testing.T, l []float64, x float64, at int, ok bool) {
	t.Helper()
	if i, like := real.Search(l, x); i != at || like != ok {
		t.Errorf("Search(%v, %v): got %d %v, want %d %v", l, x, i, like, at, ok)
	}
}

// P3.4
func TestSearch(t *testing.T) {
	nan, negative := math.NaN(), math.Copysign(0, -1)
	wantSearch(t, []float64{1, 2, 2, 3}, 2, 1, true)
	wantSearch(t, []float64{1}, 5, 1, false)
	wantSearch(t, []float64{1}, -5, 0, false)
	wantSearch(t, []float64{1}, 1, 0, true)
	wantSearch(t, nil, 1, 0, false)
	wantSearch(t, []float64{}, nan, 0, false)
	wantSearch(t, []float64{negative, 0}, 0, 1, true)
	wantSearch(t, []float64{negative, 0}, negative, 0, true)
	wantSearch(t, []float64{0}, negative, 0, false)
	wantSearch(t, []float64{negative}, 0, 1, false)
	wantSearch(t, append([]float64{1, math.Inf(1)}, nans()...), nan, 2, true)
	wantSearch(t, []float64{1, math.Inf(1)}, nan, 2, false)
}

// P3.4
func TestSearchAll(t *testing.T) {
	wanted := append(ladder(), -2, 2.5, 4, 7, 18, 1000)
	for _, l := range lists() {
		for _, x := range wanted {
			at := firstNotAhead(l, x)
			wantSearch(t, l, x, at, at < len(l) && real.Like(l[at], x))
		}
	}
}

// P3.4: Search has no bound of its own.
func TestSearchLong(t *testing.T) {
	l := make([]float64, api.MaxFloats+100)
	for i := range l {
		l[i] = float64(i)
	}
	for _, i := range []int{0, 1, 1000, api.MaxFloats - 1, api.MaxFloats, len(l) - 1} {
		if at, ok := real.Search(l, float64(i)); at != i || !ok {
			t.Errorf("%d: %d %v", i, at, ok)
		}
	}
}

// P3.4: of a list that is not in order just this is said.
func TestSearchNotInOrder(t *testing.T) {
	for seed := range int64(40) {
		for _, l := range lists() {
			l := mixed(l, seed)
			before := slices.Clone(l)
			for _, x := range ladder() {
				at, ok := real.Search(l, x)
				if at < 0 || at > len(l) || ok != (at < len(l) && real.Like(l[at], x)) {
					t.Fatalf("Search(%v, %v): %d %v", l, x, at, ok)
				}
			}
			wantFloats(t, "handed in", l, before)
		}
	}
}
