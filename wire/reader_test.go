package wire_test

import (
	"bytes"
	"math"
	"testing"

	"millrace/api"
	"millrace/wire"
)

// wantAt holds where a reader of these bytes stands against what is left of them.
func wantAt(t *testing.T, r *wire.Reader, whole []byte, at int) {
	t.Helper()
	if r.At() != at || r.Left() != len(whole)-at || !bytes.Equal(r.Rest(), whole[at:]) {
		t.Errorf("stands at %d, %d left (%x), want at %d of %x", r.At(), r.Left(), r.Rest(), at, whole)
	}
}

func wantErr(t *testing.T, what string, got, want api.Errno) {
	t.Helper()
	if got != want {
		t.Errorf("%s: got %v, want %v", what, got, want)
	}
}

// P1.2
func TestNew(t *testing.T) {
	for _, b := range [][]byte{nil, {}, {1}, {1, 2, 3}} {
		r := wire.New(b)
		if r == nil {
			t.Fatal("no reader")
		}
		wantAt(t, r, b, 0)
	}
	whole := []byte{1, 2, 3}
	r := wire.New(whole)
	for i := range whole {
		if x, e := r.U8(); x != whole[i] || e != api.OK {
			t.Error(x, e)
		}
		wantAt(t, r, whole, i+1)
		wantAt(t, r, whole, i+1) // Rest leaves it where it is
	}
}

// P1.2: the bytes are kept as they are when New is called, and not handed out.
func TestReaderKeepsItsBytes(t *testing.T) {
	b := append(make([]byte, 0, 16), 2, 0, 0, 0, 'a', 'b', 7)
	r := wire.New(b)
	for i := range b {
		b[i] = 0xee
	}
	rest := r.Rest()
	rest = rest[:cap(rest)]
	for i := range rest {
		rest[i] = 0xee
	}
	wantAt(t, r, []byte{2, 0, 0, 0, 'a', 'b', 7}, 0)
	s, e := r.String(2)
	if e != api.OK || string(s) != "ab" {
		t.Error(s, e)
	}
	_ = append(s, 0xee)
	if x, e := r.U8(); x != 7 || e != api.OK {
		t.Error(x, e)
	}
	if !bytes.Equal(b[:cap(b)][7:], make([]byte, 9)) {
		t.Error("spare room", b[:cap(b)])
	}
}

// readers are the calls that read a number, with how many bytes it has and its bits as they are answered.
func readers() []struct {
	name string
	size int
	read func(r *wire.Reader) (uint64, api.Errno)
} {
	return []struct {
		name string
		size int
		read func(r *wire.Reader) (uint64, api.Errno)
	}{
		{"U8", 1, func(r *wire.Reader) (uint64, api.Errno) { x, e := r.U8(); return uint64(x), e }},
		{"U16", 2, func(r *wire.Reader) (uint64, api.Errno) { x, e := r.U16(); return uint64(x), e }},
		{"U32", 4, func(r *wire.Reader) (uint64, api.Errno) { x, e := r.U32(); return uint64(x), e }},
		{"U64", 8, func(r *wire.Reader) (uint64, api.Errno) { return r.U64() }},
		{"I64", 8, func(r *wire.Reader) (uint64, api.Errno) { x, e := r.I64(); return uint64(x), e }},
		{"F64", 8, func(r *wire.Reader) (uint64, api.Errno) { x, e := r.F64(); return math.Float64bits(x), e }},
	}
}

// P1.3: each number, behind other bytes and ahead of others; of fewer bytes ErrMore, and nothing moves.
func TestReadNumbers(t *testing.T) {
	whole := []byte{0xaa, 0x81, 0x72, 0x63, 0x54, 0x45, 0x36, 0x27, 0x98, 0xbb}
	const word = 0x9827364554637281
	for _, c := range readers() {
		r := wire.New(whole)
		wantErr(t, c.name, r.Skip(1), api.OK)
		x, e := c.read(r)
		if e != api.OK || x != word&(math.MaxUint64>>(64-8*c.size)) {
			t.Errorf("%s: %x %v", c.name, x, e)
		}
		wantAt(t, r, whole, 1+c.size)
		for n := range c.size {
			few := whole[:1+n]
			r := wire.New(few)
			r.Skip(1)
			if x, e := c.read(r); e != api.ErrMore || x != 0 {
				t.Errorf("%s of %d bytes: %x %v", c.name, n, x, e)
			}
			wantAt(t, r, few, 1)
		}
	}
}

// P1.3: signs and floats' bits.
func TestReadSignsAndFloats(t *testing.T) {
	for _, x := range []int64{0, 1, -1, math.MinInt64, math.MaxInt64} {
		if got, e := wire.New(wire.AppendI64(nil, x)).I64(); got != x || e != api.OK {
			t.Error(x, got, e)
		}
	}
	bits := append(nanBits(), 0, 1<<63, math.Float64bits(math.Inf(1)), math.Float64bits(math.Inf(-1)), 1, math.Float64bits(0.1))
	for _, x := range bits {
		if got, e := wire.New(wire.AppendU64(nil, x)).F64(); math.Float64bits(got) != x || e != api.OK {
			t.Errorf("%x: %x %v", x, math.Float64bits(got), e)
		}
	}
}

// P1.3
func TestSkip(t *testing.T) {
	whole := []byte{1, 2, 3, 4, 5}
	r := wire.New(whole)
	for _, c := range []struct {
		n    int
		want api.Errno
		at   int
	}{
		{0, api.OK, 0}, {-1, api.ErrArg, 0}, {math.MinInt, api.ErrArg, 0}, {6, api.ErrMore, 0}, {math.MaxInt, api.ErrMore, 0},
		{2, api.OK, 2}, {4, api.ErrMore, 2}, {math.MaxInt, api.ErrMore, 2}, {-1, api.ErrArg, 2}, {-2, api.ErrArg, 2},
		{3, api.OK, 5}, {1, api.ErrMore, 5}, {0, api.OK, 5}, {-1, api.ErrArg, 5},
	} {
		wantErr(t, "Skip", r.Skip(c.n), c.want)
		wantAt(t, r, whole, c.at)
	}
}

// P1.4
func TestString(t *testing.T) {
	ab := []byte{2, 0, 0, 0, 'a', 'b'}
	for _, c := range []struct {
		b    []byte
		most int
		want api.Errno
		s    string
	}{
		{ab, 2, api.OK, "ab"}, {ab, 3, api.OK, "ab"}, {ab, math.MaxInt, api.OK, "ab"},
		{ab, 1, api.ErrNever, ""}, {ab, 0, api.ErrNever, ""},
		{ab, -1, api.ErrArg, ""}, {ab, math.MinInt, api.ErrArg, ""},
		{append(bytes.Clone(ab), 'c'), 2, api.OK, "ab"},
		{ab[:5], 2, api.ErrMore, ""}, {ab[:4], 2, api.ErrMore, ""}, {ab[:4], 1, api.ErrNever, ""},
		{[]byte{0, 0, 0, 0}, 0, api.OK, ""}, {[]byte{0, 0, 0, 0}, -1, api.ErrArg, ""},
		{nil, 0, api.ErrMore, ""}, {nil, -1, api.ErrArg, ""},
		{[]byte{1, 0, 0}, 0, api.ErrMore, ""}, {[]byte{255, 255, 255}, 0, api.ErrMore, ""},
		{[]byte{255, 255, 255, 255}, math.MaxInt32, api.ErrNever, ""},
		{[]byte{255, 255, 255, 255, 1}, math.MaxInt, api.ErrMore, ""},
		{[]byte{0, 0, 0, 128, 1}, math.MaxInt, api.ErrMore, ""},
		{[]byte{0, 1, 0, 0, 1}, 255, api.ErrNever, ""}, {[]byte{0, 1, 0, 0, 1}, 256, api.ErrMore, ""},
		{[]byte{0, 0, 0, 1, 1}, 1<<24 - 1, api.ErrNever, ""}, {[]byte{0, 0, 0, 1, 1}, 1 << 24, api.ErrMore, ""},
	} {
		r := wire.New(append([]byte{9}, c.b...))
		r.Skip(1)
		s, e := r.String(c.most)
		if e != c.want || string(s) != c.s {
			t.Errorf("%x String(%d): %q %v, want %q %v", c.b, c.most, s, e, c.s, c.want)
		}
		at := 1
		if c.want == api.OK {
			at += 4 + len(c.s)
		}
		wantAt(t, r, append([]byte{9}, c.b...), at)
	}
}

// P1.4: what is read is bounded by most alone, not by what can be appended.
func TestStringAboveMaxString(t *testing.T) {
	b := append(wire.AppendU32(nil, api.MaxString+1), make([]byte, api.MaxString+1)...)
	if s, e := wire.New(b).String(api.MaxString + 1); e != api.OK || len(s) != api.MaxString+1 {
		t.Error(len(s), e)
	}
	if s, e := wire.New(b).String(api.MaxString); e != api.ErrNever || len(s) != 0 {
		t.Error(len(s), e)
	}
}

// P1.4
func TestList(t *testing.T) {
	two := []byte{2, 0, 0, 0, 1, 0, 0, 0, 'a', 2, 0, 0, 0, 'b', 'c'}
	for _, c := range []struct {
		b           []byte
		items, most int
		want        api.Errno
		l           []string
	}{
		{two, 2, 2, api.OK, []string{"a", "bc"}}, {two, math.MaxInt, math.MaxInt, api.OK, []string{"a", "bc"}},
		{two, 1, 2, api.ErrNever, nil}, {two, 0, 2, api.ErrNever, nil},
		{two, 2, 1, api.ErrNever, nil}, {two, 2, 0, api.ErrNever, nil},
		{two, -1, 2, api.ErrArg, nil}, {two, 2, -1, api.ErrArg, nil}, {two, math.MinInt, math.MinInt, api.ErrArg, nil},
		{two, 0, -1, api.ErrArg, nil},
		{append(bytes.Clone(two), 9, 9, 9, 9), 2, 2, api.OK, []string{"a", "bc"}},
		{two[:14], 2, 2, api.ErrMore, nil}, {two[:13], 2, 2, api.ErrMore, nil}, {two[:12], 2, 2, api.ErrMore, nil},
		{two[:12], 2, 1, api.ErrMore, nil}, {two[:13], 2, 1, api.ErrNever, nil},
		{two[:9], 2, 2, api.ErrMore, nil}, {two[:8], 2, 2, api.ErrMore, nil}, {two[:4], 2, 2, api.ErrMore, nil},
		{two[:4], 1, 2, api.ErrNever, nil}, {two[:3], 1, 2, api.ErrMore, nil}, {nil, 0, 0, api.ErrMore, nil},
		{nil, -1, 0, api.ErrArg, nil}, {nil, 0, -1, api.ErrArg, nil},
		{[]byte{0, 0, 0, 0}, 0, 0, api.OK, nil}, {[]byte{1, 0, 0, 0, 0, 0, 0, 0}, 1, 0, api.OK, []string{""}},
		{[]byte{2, 0, 0, 0, 3, 0, 0, 0, 9, 0, 0, 0, 9}, 2, 5, api.ErrMore, nil},
		{[]byte{3, 0, 0, 0, 0, 0, 0, 0, 9, 0, 0, 0}, 3, 5, api.ErrNever, nil},
		{[]byte{255, 255, 255, 255, 0, 0, 0, 0}, math.MaxInt32, 9, api.ErrNever, nil},
		{[]byte{255, 255, 255, 255, 0, 0, 0, 0}, math.MaxInt, 9, api.ErrMore, nil},
		{[]byte{255, 255, 255, 255, 0, 0, 0, 0, 1, 0, 0, 0}, math.MaxInt, 0, api.ErrNever, nil},
		{[]byte{0, 1, 0, 0}, 255, 0, api.ErrNever, nil}, {[]byte{0, 1, 0, 0}, 256, 0, api.ErrMore, nil},
	} {
		whole := append([]byte{9}, c.b...)
		r := wire.New(whole)
		r.Skip(1)
		l, e := r.List(c.items, c.most)
		if e != c.want || len(l) != len(c.l) {
			t.Errorf("%x List(%d, %d): %q %v, want %q %v", c.b, c.items, c.most, l, e, c.l, c.want)
			continue
		}
		at := 1
		if c.want == api.OK {
			at += 4
		}
		for i, s := range c.l {
			at += 4 + len(s)
			if string(l[i]) != s {
				t.Errorf("%x List(%d, %d): %q, want %q", c.b, c.items, c.most, l, c.l)
			}
		}
		wantAt(t, r, whole, at)
	}
}

// P1.4: what is read is bounded by items alone, not by what can be appended.
func TestListAboveMaxItems(t *testing.T) {
	b := append(wire.AppendU32(nil, api.MaxItems+1), make([]byte, 4*(api.MaxItems+1))...)
	if l, e := wire.New(b).List(api.MaxItems+1, 0); e != api.OK || len(l) != api.MaxItems+1 {
		t.Error(len(l), e)
	}
	if l, e := wire.New(b).List(api.MaxItems, 0); e != api.ErrNever || len(l) != 0 {
		t.Error(len(l), e)
	}
}

// P1.4: what is answered is new memory, string by string, spare room too.
func TestReadNewMemory(t *testing.T) {
	b, _ := wire.AppendList(nil, []byte("ab"), nil, []byte("cd"), []byte("ef"))
	r := wire.New(b)
	other := r.Copy()
	l, e := r.Copy().List(9, 9)
	if e != api.OK || len(l) != 4 {
		t.Fatal(l, e)
	}
	for i := range l {
		s := l[i][:cap(l[i])]
		for k := range s {
			s[k] = 0xee
		}
		_ = append(l[i], 0xdd, 0xdd, 0xdd)
		for k := i + 1; k < len(l); k++ {
			if want := []string{"ab", "", "cd", "ef"}[k]; string(l[k]) != want {
				t.Errorf("string %d changed with %d: %q", k, i, l[k])
			}
		}
	}
	wantAt(t, r, b, 0)
	wantAt(t, other, b, 0)
}

// P1.4: what is answered shares no memory with the reader: a second reader over its bytes, taken by value, would see it.
func TestReadSharesNothing(t *testing.T) {
	b, _ := wire.AppendList(nil, []byte("ab"), []byte("cd"))
	r := wire.New(b)
	again := *r
	l, e := r.List(2, 2)
	if e != api.OK || len(l) != 2 {
		t.Fatal(l, e)
	}
	l[0][0], l[1][1] = 0xee, 0xee
	wantAt(t, &again, b, 0)
	again.Skip(4)
	whole := again
	s, e := again.String(2)
	if e != api.OK || string(s) != "ab" {
		t.Fatal(s, e)
	}
	s[1] = 0xee
	wantAt(t, &whole, b, 4)
}

// P1.5
func TestEnd(t *testing.T) {
	wantErr(t, "no bytes", wire.New(nil).End(), api.OK)
	r := wire.New([]byte{1, 2})
	wantErr(t, "two left", r.End(), api.ErrRest)
	r.U8()
	wantErr(t, "one left", r.End(), api.ErrRest)
	r.U8()
	wantErr(t, "none left", r.End(), api.OK)
	wantErr(t, "again", r.End(), api.OK)
}

// P1.5
func TestCopy(t *testing.T) {
	whole := []byte{1, 2, 3, 4}
	r := wire.New(whole)
	r.U8()
	c := r.Copy()
	if c == nil || c == r {
		t.Fatal("no other reader")
	}
	wantAt(t, c, whole, 1)
	r.U16()
	wantAt(t, c, whole, 1)
	wantAt(t, r, whole, 3)
	if x, e := c.U8(); x != 2 || e != api.OK {
		t.Error(x, e)
	}
	wantAt(t, r, whole, 3)
	c.Skip(2)
	wantErr(t, "at its end", c.Copy().End(), api.OK)
	wantAt(t, c.Copy(), whole, 4)
	wantErr(t, "of no bytes", wire.New(nil).Copy().End(), api.OK)
}

// P1.2 to P1.5: nil, and zero, readers.
func TestNoReader(t *testing.T) {
	for name, r := range map[string]*wire.Reader{"nil": nil, "zero": {}, "copy of nil": (*wire.Reader)(nil).Copy(), "copy of zero": (&wire.Reader{}).Copy()} {
		for _, c := range readers() {
			if x, e := c.read(r); e != api.ErrNil || x != 0 {
				t.Errorf("%s %s: %d %v", name, c.name, x, e)
			}
		}
		for _, n := range []int{0, 1, -1, math.MinInt, math.MaxInt} {
			wantErr(t, name+" Skip", r.Skip(n), api.ErrNil)
			if s, e := r.String(n); e != api.ErrNil || len(s) != 0 {
				t.Error(name, "String", s, e)
			}
			for _, m := range []int{0, 1, -1} {
				if l, e := r.List(n, m); e != api.ErrNil || len(l) != 0 {
					t.Error(name, "List", l, e)
				}
			}
		}
		if r.At() != 0 || r.Left() != 0 || len(r.Rest()) != 0 || r.Copy() != nil {
			t.Error(name, "stands somewhere")
		}
		wantErr(t, name+" End", r.End(), api.ErrNil)
	}
}
