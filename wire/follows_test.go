package wire_test

import (
	"bytes"
	"math"
	"slices"
	"testing"

	"millrace/api"
	"millrace/wire"
)

// part is something that is appended, and how it is read: is it as it was?
type part struct {
	append func(b []byte) []byte
	read   func(r *wire.Reader) (bool, api.Errno)
}

func stringPart(s string) part {
	return part{
		func(b []byte) []byte { b, _ = wire.AppendString(b, []byte(s)); return b },
		func(r *wire.Reader) (bool, api.Errno) { x, e := r.String(len(s)); return string(x) == s, e },
	}
}

func listPart(l ...string) part {
	var in [][]byte
	most := 0
	for _, s := range l {
		in = append(in, []byte(s))
		most = max(most, len(s))
	}
	return part{
		func(b []byte) []byte { b, _ = wire.AppendList(b, in...); return b },
		func(r *wire.Reader) (bool, api.Errno) {
			x, e := r.List(len(l), most)
			return slices.EqualFunc(x, in, bytes.Equal), e
		},
	}
}

func floatPart(bits uint64) part {
	return part{
		func(b []byte) []byte { return wire.AppendF64(b, math.Float64frombits(bits)) },
		func(r *wire.Reader) (bool, api.Errno) { x, e := r.F64(); return math.Float64bits(x) == bits, e },
	}
}

func parts() []part {
	l := []part{
		{func(b []byte) []byte { return wire.AppendU8(b, 200) }, func(r *wire.Reader) (bool, api.Errno) { x, e := r.U8(); return x == 200, e }},
		{func(b []byte) []byte { return wire.AppendU16(b, 60001) }, func(r *wire.Reader) (bool, api.Errno) { x, e := r.U16(); return x == 60001, e }},
		{func(b []byte) []byte { return wire.AppendU32(b, 4000000001) }, func(r *wire.Reader) (bool, api.Errno) { x, e := r.U32(); return x == 4000000001, e }},
		{func(b []byte) []byte { return wire.AppendU64(b, 1<<63+5) }, func(r *wire.Reader) (bool, api.Errno) { x, e := r.U64(); return x == 1<<63+5, e }},
		{func(b []byte) []byte { return wire.AppendI64(b, -77) }, func(r *wire.Reader) (bool, api.Errno) { x, e := r.I64(); return x == -77, e }},
		stringPart(""), stringPart("a"), stringPart("\x00\xff\x00"), stringPart(string(make([]byte, 300))),
		listPart(), listPart(""), listPart("a", "", "bcd"), listPart("", "", "", "\x05\x00\x00\x00"),
	}
	for _, x := range append(nanBits(), 0, 1<<63, math.Float64bits(2.5)) {
		l = append(l, floatPart(x))
	}
	return l
}

// P1.6: what was appended is read as it was, in order, and nothing is left.
func TestThereAndBack(t *testing.T) {
	var b []byte
	for _, p := range parts() {
		b = p.append(b)
	}
	r := wire.New(b)
	for i, p := range parts() {
		if same, e := p.read(r); !same || e != api.OK {
			t.Errorf("part %d: %v %v", i, same, e)
		}
	}
	wantErr(t, "End", r.End(), api.OK)
}

// P1.6: of each beginning of what was appended what is read is as it was, till more is wanted.
func TestEachBeginning(t *testing.T) {
	var b []byte
	var ends []int
	for _, p := range parts() {
		b = p.append(b)
		ends = append(ends, len(b))
	}
	for n := range len(b) {
		r := wire.New(b[:n])
		at := 0
		for i, p := range parts() {
			same, e := p.read(r)
			if ends[i] > n {
				wantErr(t, "cut", e, api.ErrMore)
				wantAt(t, r, b[:n], at)
				break
			}
			if !same || e != api.OK {
				t.Errorf("part %d of the first %d bytes: %v %v", i, n, same, e)
			}
			at = ends[i]
		}
	}
}

// eachText tells all texts of at most that many of these bytes.
func eachText(most int, of []byte, do func(b []byte)) {
	var grow func(b []byte)
	grow = func(b []byte) {
		do(b)
		if len(b) == most {
			return
		}
		for _, x := range of {
			grow(append(b[:len(b):len(b)], x))
		}
	}
	grow(nil)
}

// read is a call that reads strings, each of at most so many bytes.
type read struct {
	name string
	most int
	do   func(r *wire.Reader) ([][]byte, api.Errno)
}

func stringRead(name string, most int) read {
	return read{name, most, func(r *wire.Reader) ([][]byte, api.Errno) {
		s, e := r.String(most)
		return [][]byte{s}, e
	}}
}

func listRead(name string, items, most int) read {
	return read{name, most, func(r *wire.Reader) ([][]byte, api.Errno) { return r.List(items, most) }}
}

// P1.6: ErrMore, if bytes behind make it go well; ErrNever, if none do; and what went well goes on so.
func TestMoreAndNever(t *testing.T) {
	reads := []read{stringRead("String(1)", 1), stringRead("String(2)", 2), listRead("List(1, 1)", 1, 1), listRead("List(2, 2)", 2, 2)}
	counts := []uint32{0, 1, 2, 3, 256, 1 << 24}
	eachText(7, []byte{0, 1, 2}, func(tail []byte) {
		for _, count := range counts {
			checkFollows(t, slices.Concat(wire.AppendU32(nil, count), tail), reads)
			for _, first := range counts {
				checkFollows(t, slices.Concat(wire.AppendU32(wire.AppendU32(nil, count), first), tail), reads)
			}
		}
	})
}

func checkFollows(t *testing.T, b []byte, reads []read) {
	t.Helper()
	behind := [][]byte{{0}, {1}, {255}, make([]byte, 30), bytes.Repeat([]byte{1}, 30), bytes.Repeat([]byte{255}, 30)}
	for _, read := range reads {
		r := wire.New(b)
		was, e := read.do(r)
		if e == api.ErrMore {
			// A length that is not all there is ErrMore, whatever it says so far (P1.4).
			if cutLength(b) <= read.most && !goesWell(b, read) {
				t.Fatalf("%s of %x: ErrMore, but nothing makes it go well", read.name, b)
			}
			continue
		}
		if e != api.OK && e != api.ErrNever {
			t.Fatalf("%s of %x: %v", read.name, b, e)
		}
		for _, more := range behind {
			again := wire.New(slices.Concat(b, more))
			if l, f := read.do(again); f != e || !slices.EqualFunc(l, was, bytes.Equal) || again.At() != r.At() {
				t.Fatalf("%s of %x and %x: %q %v, was %q %v", read.name, b, more, l, f, was, e)
			}
		}
	}
}

// cutLength is what the length within which a list's bytes end says so far, if they do.
func cutLength(b []byte) int {
	at := 4
	for at+4 <= len(b) {
		x, _ := wire.New(b[at:]).U32()
		at += 4 + int(x)
	}
	if at >= len(b) {
		return 0
	}
	x, _ := wire.New(slices.Concat(b[at:], make([]byte, 4))).U32()
	return int(x)
}

// goesWell: noughts behind are a string's bytes, and strings of no bytes.
func goesWell(b []byte, read read) bool {
	_, e := read.do(wire.New(slices.Concat(b, make([]byte, 30))))
	return e == api.OK
}

// P1.6 and P1.4: a length that is not all there wants more; what it says is judged when it is whole.
func TestCutLength(t *testing.T) {
	for _, b := range [][]byte{nil, {0}, {0, 0, 0}, {1}, {2, 0, 0}, {255, 255, 255}} {
		if _, e := wire.New(b).String(0); e != api.ErrMore {
			t.Errorf("String of %x: %v", b, e)
		}
		if _, e := wire.New(b).List(0, 0); e != api.ErrMore {
			t.Errorf("List of %x: %v", b, e)
		}
	}
}
