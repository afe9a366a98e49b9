package real_test

import (
	"math"
	"math/big"
	"math/rand"
	"regexp"
	"strconv"
	"strings"
	"testing"

	"millrace/api"
	"millrace/real"
)

var product = regexp.MustCompile(`^(-?)([1-9][0-9]*)p(0|-?[1-9][0-9]*)$`)

// floatOf reads a text as the chapter's words say, with numbers that have no bound but that of 5 digits of a power.
func floatOf(s string) (float64, bool) {
	switch s {
	case "nan":
		return math.NaN(), true
	case "inf":
		return math.Inf(1), true
	case "-inf":
		return math.Inf(-1), true
	case "0":
		return 0, true
	case "-0":
		return math.Copysign(0, -1), true
	}
	p := product.FindStringSubmatch(s)
	if p == nil || len(p[3]) > 6 {
		return 0, false
	}
	m, _ := new(big.Int).SetString(p[1]+p[2], 10)
	e, _ := strconv.Atoi(p[3])
	if m.Bit(0) == 0 {
		return 0, false
	}
	whole := new(big.Float).SetPrec(uint(m.BitLen())).SetInt(m)
	x, how := whole.SetMantExp(whole, e).Float64()
	if how != big.Exact || math.IsInf(x, 0) {
		return 0, false
	}
	return x, true
}

// textOf tells a float's text out of what the library makes of it, which is not odd.
func textOf(x float64) string {
	switch {
	case math.IsNaN(x):
		return "nan"
	case math.IsInf(x, 0):
		return strings.TrimPrefix(strings.ToLower(strconv.FormatFloat(x, 'g', -1, 64)), "+")
	case x == 0:
		return strconv.FormatFloat(x, 'g', -1, 64)
	}
	number, power, _ := strings.Cut(strconv.FormatFloat(x, 'b', -1, 64), "p")
	m, _ := strconv.ParseInt(number, 10, 64)
	e, _ := strconv.Atoi(power)
	for m%2 == 0 {
		m /= 2
		e++
	}
	return strconv.FormatInt(m, 10) + "p" + strconv.Itoa(e)
}

// known are floats and their texts: the chapter's, and those at the edges.
func known() map[string]float64 {
	return map[string]float64{
		"0": 0, "-0": math.Copysign(0, -1), "inf": math.Inf(1), "-inf": math.Inf(-1), "nan": math.NaN(),
		"3p-2": 0.75, "-3p1": -6, "3p1": 6, "1p0": 1, "-1p0": -1, "5p0": 5, "1p10": 1024, "1p100": 1 << 100, "3p20": 3 << 20, "101p-3": 12.625,
		"1p-1074": 5e-324, "-1p-1074": -5e-324, "3p-1074": 1.5e-323, "1p-1073": 1e-323,
		"4503599627370495p-1074": of(0x000fffffffffffff), // the greatest that is not normal
		"1p-1022":                of(0x0010000000000000), // the least that is
		"4503599627370497p-1074": of(0x0010000000000001),
		"9007199254740991p-1074": of(0x001fffffffffffff),
		"9007199254740991p0":     1<<53 - 1, "1p53": 1 << 53, "4503599627370497p1": 1<<53 + 2,
		"1p1023": 0x1p1023, "9007199254740991p971": math.MaxFloat64, "-9007199254740991p971": -math.MaxFloat64,
		"3602879701896397p-55": 0.1, "-7074237752028441p-1": -3537118876014220.5,
	}
}

func wantText(t *testing.T, x float64, want string) {
	t.Helper()
	if s := real.Text(x); s != want {
		t.Errorf("Text(%v): got %q, want %q", x, s, want)
	}
}

func wantRead(t *testing.T, s string) {
	t.Helper()
	want, ok := floatOf(s)
	x, e := real.Read(s)
	if ok != (e == api.OK) || !ok && e != api.ErrReal {
		t.Errorf("Read(%q): got %v %v, want %v %v", s, x, e, want, ok)
	}
	wantFloat(t, "Read("+s+")", x, want)
}

// P3.3
func TestTextKnown(t *testing.T) {
	for s, x := range known() {
		wantText(t, x, s)
		y, e := real.Read(s)
		wantErr(t, s, e, api.OK)
		wantFloat(t, s, y, x)
	}
	for _, x := range nans() {
		wantText(t, x, "nan")
	}
}

// P3.3
func TestText(t *testing.T) {
	for _, x := range append(ladder(), anyFloats(5000, 4)...) {
		wantText(t, x, textOf(x))
	}
}

// P3.3: one bit of the number, at each power there is.
func TestTextOfPowers(t *testing.T) {
	for e := -1074; e <= 1023; e++ {
		s := "1p" + strconv.Itoa(e)
		wantText(t, math.Ldexp(1, e), s)
		wantText(t, math.Ldexp(-1, e), "-"+s)
		wantRead(t, s)
		wantRead(t, "-"+s)
	}
}

// P3.3: what is no float's text.
func TestReadWrong(t *testing.T) {
	for _, s := range []string{
		"", "-", "--", "+", " ", "p", "-p", "p0", "p1", "-p1", "1", "-1", "3", "00", "-00", "--0", "+0", "0 ", " 0", "0p0", "-0p0", "0p1",
		"nan ", "-nan", "+nan", "NaN", "NAN", "na", "nann", "inf ", "+inf", "--inf", "Inf", "INF", "in", "infinity", "-infinity", "i", "n",
		"6p0", "2p0", "2p-1", "10p3", "-4p0", "9007199254740992p0",
		"+3p1", "3p+1", "+3p+1", "3P1", "3p", "-3p", "3p-", "3p--1", "3pp1", "3p1p1", "3p1 ", " 3p1", "3 p1", "3p 1", "3p1\n", "3p1\x00", "\x003p1", "3p\x001", "3p1-", "3-p1", "-3-p1",
		"01p0", "-01p0", "003p1", "3p01", "3p00", "3p-0", "3p-00", "3p-01", "3p0 ", "3p00", "3p0p", "3p0\x00",
		"1.5p0", "1e3", "0x3p1", "3_1p1", "a3p1", "3ap1", "3pa", "3p1a", "3p\u0661", "\u0663p1", "3p1/", "3p1:", "/p1", ":p1", "1/p0", "1:p0",
		"1p1024", "-1p1024", "3p1023", "1p1025", "1p-1075", "-1p-1075", "3p-1075", "1p-1076", "1p10000", "1p-10000",
		"9007199254740991p972", "9007199254740991p-1075", "4503599627370497p-1075", "9007199254740993p0", "9007199254740993p971", "18014398509481983p0", "9007199254740993p-1074",
		"18446744073709551617p0", "18446744073709551619p0", "-18446744073709551617p0", "36893488147419103233p0", "1p18446744073709551616", "1p-18446744073709551616", "1p18446744073709551617", "1p4294967296", "1p4294967297", "1p9223372036854775808", "1p-9223372036854775808",
	} {
		if _, ok := floatOf(s); ok {
			t.Fatalf("%q is a float's text", s)
		}
		x, e := real.Read(s)
		wantErr(t, s, e, api.ErrReal)
		wantFloat(t, "beside ErrReal", x, 0)
	}
}

// P3.3: long texts are refused as well as short ones, and at once.
func TestReadLong(t *testing.T) {
	for _, c := range []string{"0", "1", "9", "-", "p", "n", "\x00"} {
		long := strings.Repeat(c, 1<<20)
		for _, s := range []string{long, "-" + long, "3p" + long, "3p-" + long, long + "p1", "3" + long + "p1", "nan" + long, "inf" + long, "3p0" + long, "3p1" + long} {
			x, e := real.Read(s)
			wantErr(t, "long", e, api.ErrReal)
			wantFloat(t, "beside ErrReal", x, 0)
		}
	}
}

// P3.3: each text with one byte more, one less, or another one is taken just if it is a float's text.
func TestReadNearTexts(t *testing.T) {
	const with = "0123456789-+p naif/:\x00"
	for s := range known() {
		for i := range len(s) + 1 {
			wantRead(t, s[:i])
			wantRead(t, s[i:])
			for _, c := range with {
				wantRead(t, s[:i]+string(c)+s[i:])
				if i < len(s) {
					wantRead(t, s[:i]+string(c)+s[i+1:])
				}
			}
			if i < len(s) {
				wantRead(t, s[:i]+s[i+1:])
			}
		}
	}
}

// P3.3: all texts of up to five of the bytes that texts are made of.
func TestReadShortTexts(t *testing.T) {
	l := []string{""}
	for len(l[0]) < 5 {
		var longer []string
		for _, s := range l {
			wantRead(t, s)
			for _, c := range "0123-p" {
				longer = append(longer, s+string(c))
			}
		}
		l = longer
	}
	for _, s := range l {
		wantRead(t, s)
	}
}

// P3.3: numbers and powers at and around the bounds, which hang on one another.
func TestReadBounds(t *testing.T) {
	draw := rand.New(rand.NewSource(5))
	for size := 1; size <= 55; size++ {
		for _, e := range []int{-1075, -1074, -1073, -1074 - size, -1074 + size, 1023 - size, 1024 - size, 1025 - size, 1023, 1024} {
			for range 4 {
				m := uint64(1)<<(size-1) | draw.Uint64()>>(64-size) | 1
				wantRead(t, strconv.FormatUint(m, 10)+"p"+strconv.Itoa(e))
				wantRead(t, "-"+strconv.FormatUint(m, 10)+"p"+strconv.Itoa(e))
				wantRead(t, strconv.FormatUint(m+1, 10)+"p"+strconv.Itoa(e))
			}
		}
	}
}
