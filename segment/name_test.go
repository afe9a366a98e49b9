package segment_test

import (
	"fmt"
	"math/rand"
	"regexp"
	"strings"
	"testing"

	"millrace/api"
	"millrace/segment"
)

// wantName asks Name and Parse for each other's answer.
func wantName(t *testing.T, log string, base int64, name string) {
	t.Helper()
	if got, e := segment.Name(log, base); got != name || e != api.OK {
		t.Errorf("Name(%q, %d): %q %v, want %q", log, base, got, e, name)
	}
	if l, b, ok := segment.Parse(name); l != log || b != base || !ok {
		t.Errorf("Parse(%q): %q %d %v, want %q %d", name, l, b, ok, log, base)
	}
}

// wantNoName asks Name for its refusal.
func wantNoName(t *testing.T, log string, base int64) {
	t.Helper()
	if got, e := segment.Name(log, base); got != "" || e != api.ErrArg {
		t.Errorf("Name(%q, %d): %q %v", log, base, got, e)
	}
}

// shape is how names look.
var shape = regexp.MustCompile(`\A[a-z]{1,8}-[0-9a-f]{14}\z`)

// parsed is Parse by the chapter's words.
func parsed(name string) (string, int64, bool) {
	if !shape.MatchString(name) {
		return "", 0, false
	}
	log, number, _ := strings.Cut(name, "-")
	var base int64
	fmt.Sscanf(number, "%x", &base)
	if base > 1<<53 {
		return "", 0, false
	}
	return log, base, true
}

func wantParse(t *testing.T, name string) {
	t.Helper()
	log, base, found := parsed(name)
	if l, b, ok := segment.Parse(name); l != log || b != base || ok != found {
		t.Errorf("Parse(%q): %q %d %v, want %q %d %v", name, l, b, ok, log, base, found)
	}
}

// P10.1: the chapter's names, and the edges of logs and bases.
func TestName(t *testing.T) {
	wantName(t, "p", 15, "p-0000000000000f")
	wantName(t, "p", 0, "p-00000000000000")
	wantName(t, "a", 1, "a-00000000000001")
	wantName(t, "z", 9, "z-00000000000009")
	wantName(t, "az", 10, "az-0000000000000a")
	wantName(t, "abcdefgh", 16, "abcdefgh-00000000000010")
	wantName(t, "zzzzzzzz", 0x123456789abcd, "zzzzzzzz-0123456789abcd")
	wantName(t, "p", 0xfedcba987654, "p-00fedcba987654")
	wantName(t, "p", api.MaxOffset-1, "p-1fffffffffffff")
	wantName(t, "p", api.MaxOffset, "p-20000000000000")
	for c := 'a'; c <= 'z'; c++ {
		for n := 1; n <= 8; n++ {
			log := strings.Repeat(string(c), n)
			wantName(t, log, 255, log+"-000000000000ff")
		}
	}
}

// P10.1: each digit at each place.
func TestNameDigits(t *testing.T) {
	for place := range 13 {
		for digit := range int64(16) {
			text := []byte("00000000000000")
			text[13-place] = "0123456789abcdef"[digit]
			wantName(t, "log", digit<<(4*place), "log-"+string(text))
		}
	}
	r := rand.New(rand.NewSource(10))
	for range 1000 {
		base := r.Int63n(api.MaxOffset + 1)
		wantName(t, "q", base, fmt.Sprintf("q-%014x", base))
	}
}

// P10.1: logs that may not be, whatever the base; bases that may not be, whatever the log.
func TestNameRefused(t *testing.T) {
	logs := []string{"", "abcdefghi", strings.Repeat("a", 1<<16), "P", "p-", "-", "p-0000000000000f", "aé", "\xff"}
	for c := range 256 {
		if c < 'a' || c > 'z' {
			s := string([]byte{byte(c)})
			logs = append(logs, s, "a"+s, s+"a", "abc"+s+"efg", "abcdefg"+s)
		}
	}
	for _, log := range logs {
		for _, base := range []int64{0, 15, api.MaxOffset, -1, api.MaxOffset + 1} {
			wantNoName(t, log, base)
		}
	}
	for _, base := range far() {
		for _, log := range []string{"p", "abcdefgh"} {
			wantNoName(t, log, base)
		}
	}
}

// P10.1: what is no name, each for one reason.
func TestParseRefused(t *testing.T) {
	for _, name := range []string{
		"", "p", "-", "p-", "p-f", "-0000000000000f", "p-0000000000000F", "P-0000000000000f", "pp_0000000000000f", "p0000000000000f",
		"p-20000000000001", "p-20000000000010", "p-30000000000000", "p-2fffffffffffff", "p-ffffffffffffff", "p-80000000000000",
		"p-000000000000f", "p-00000000000000f", "p--000000000000f", "p-+000000000000f", "p-0x00000000000f", "p--0000000000000f",
		"abcdefghi-0000000000000f", "p-0000000000000f ", " p-0000000000000f", "p-0000000000000f\n", "p-0000000000000f-", "p-0000000000000g",
		"p-0000000000_00f", "p.0000000000000f", "p-000000-000000f", "a-b-0000000000000f", "p-０0000000000f",
		strings.Repeat("a", 1<<16) + "-0000000000000f", "p-" + strings.Repeat("0", 1<<16),
	} {
		wantParse(t, name)
		if _, _, ok := segment.Parse(name); ok {
			t.Errorf("%q", name)
		}
	}
}

// P10.1: names with one byte changed, put in or taken out, at each place.
func TestParseChanged(t *testing.T) {
	for _, name := range []string{"p-0000000000000f", "abcdefgh-1fffffffffffff", "mz-20000000000000", "p-ab-cdef"} {
		wantParse(t, name)
		for i := range len(name) + 1 {
			for c := range 256 {
				by := string([]byte{byte(c)})
				wantParse(t, name[:i]+by+name[i:])
				if i < len(name) {
					wantParse(t, name[:i]+by+name[i+1:])
				}
			}
			wantParse(t, name[i:])
			wantParse(t, name[:i])
			if i < len(name) {
				wantParse(t, name[:i]+name[i+1:])
			}
		}
	}
}
