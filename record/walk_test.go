package record_test

import (
	"bytes"
	"iter"
	"math"
	"math/rand"
	"slices"
	"testing"

	"millrace/api"
	"millrace/record"
)

// placed is a batch, and the place where it stands.
type placed struct {
	at    int
	batch api.Batch
}

// walked goes over bytes by the chapter's words.
func walked(b []byte, at int) ([]placed, api.Scan) {
	var out []placed
	var s api.Scan
	for {
		x, n, e := stands(b, at+s.Size)
		if e != api.OK {
			s.Why = e
			return out, s
		}
		out = append(out, placed{at + s.Size, x})
		s.Batches++
		s.Records += int64(len(x.Records))
		s.Size += n
	}
}

func wantWalk(t *testing.T, what string, b []byte, at int, want api.Scan) {
	t.Helper()
	if s, e := record.Walk(b, at); s != want || e != api.OK {
		t.Errorf("%s: Walk at %d of %d: %v %v, want %v", what, at, len(b), s, e, want)
	}
}

func wantAll(t *testing.T, what string, all iter.Seq2[int, api.Batch], want []placed) {
	t.Helper()
	i := 0
	for at, x := range all {
		if i >= len(want) || at != want[i].at || !same(x, want[i].batch) {
			t.Fatalf("%s: number %d: at %d, from %d, %d records", what, i, at, x.Base, len(x.Records))
		}
		i++
	}
	if i != len(want) {
		t.Errorf("%s: %d of %d", what, i, len(want))
	}
}

// three are the bytes of three batches, and where they stand.
func three() ([]byte, []placed) {
	var b []byte
	var l []placed
	for _, x := range []api.Batch{
		{Base: 7, Records: times(1, rec(5, "a", "bc"))},
		{Base: 2, Records: []api.Record{{}, rec(1, "key", "value"), {Time: 3}}},
		{Base: api.MaxOffset - 1, Records: times(2, rec(6, "k", ""))},
	} {
		l = append(l, placed{len(b), x})
		b = append(b, batchBytes(x)...)
	}
	return b, l
}

// tails are what may stand behind batches, and what that is.
func tails() map[string]struct {
	b    []byte
	want api.Errno
} {
	one := batchBytes(api.Batch{Base: 7, Records: times(1, rec(5, "a", "bc"))})
	return map[string]struct {
		b    []byte
		want api.Errno
	}{
		"nothing":      {nil, api.ErrEnd},
		"a byte":       {[]byte{1}, api.ErrTorn},
		"three bytes":  {[]byte{255, 255, 255}, api.ErrTorn},
		"torn":         {one[:34], api.ErrTorn},
		"noughts":      {make([]byte, 100), api.ErrCorrupt},
		"four":         {[]byte{255, 255, 255, 255}, api.ErrCorrupt},
		"wrong inside": {slices.Concat(bytesOf(1, 2, api.Record{}), one), api.ErrCorrupt},
		"wrong sum":    {append(append(bytes.Clone(one[:34]), one[34]+1), one...), api.ErrCorrupt},
		"one missing":  {slices.Concat(one[1:], one), api.ErrCorrupt},
	}
}

// P5.4: whole ones, one behind the other, and what stands behind them; from the beginning and from each batch on.
func TestWalk(t *testing.T) {
	b, l := three()
	for name, tail := range tails() {
		all := slices.Concat(b, tail.b)
		for i, p := range l {
			want := api.Scan{Batches: 3 - i, Records: int64([]int{6, 5, 2}[i]), Size: len(b) - p.at, Why: tail.want}
			wantWalk(t, name, all, p.at, want)
		}
		wantWalk(t, name, all, len(b), api.Scan{Why: tail.want})
		wantWalk(t, name, tail.b, 0, api.Scan{Why: tail.want})
		wantWalk(t, name, all, len(all), api.Scan{Why: api.ErrEnd})
	}
	one := put(t, api.Batch{Base: 7, Records: times(1, rec(5, "a", "bc"))})
	wantWalk(t, "example", slices.Concat(one, one, []byte{1}), 0, api.Scan{Batches: 2, Records: 2, Size: 70, Why: api.ErrTorn})
}

// P5.4: places that are not there; beside the error there is nothing.
func TestWalkPlaces(t *testing.T) {
	three, _ := three()
	for _, b := range [][]byte{nil, {}, {1, 2}, three, make([]byte, 3, 50)} {
		wantWalk(t, "end", b, len(b), api.Scan{Why: api.ErrEnd})
		for _, at := range []int{-1, math.MinInt, len(b) + 1, math.MaxInt} {
			if s, e := record.Walk(b, at); s != (api.Scan{}) || e != api.ErrRange {
				t.Errorf("at %d of %d: %v %v", at, len(b), s, e)
			}
		}
	}
}

// P5.4: of each beginning, from each place on.
func TestWalkEach(t *testing.T) {
	b, _ := three()
	b = append(b, 255, 255, 255, 255)
	for n := range len(b) + 1 {
		for at := range n + 1 {
			_, want := walked(b[:n], at)
			wantWalk(t, "each", b[:n], at, want)
		}
		l, _ := walked(b[:n], 0)
		wantAll(t, "each", record.All(b[:n]), l)
	}
}

// P5.4: drawn batches, with a byte changed somewhere.
func TestWalkDrawn(t *testing.T) {
	r := rand.New(rand.NewSource(54))
	for range 1000 {
		var b []byte
		for range r.Intn(6) {
			b = append(b, batchBytes(drawn(r, 3))...)
		}
		b = append(b, make([]byte, r.Intn(6))...)
		if len(b) > 0 && r.Intn(2) == 0 {
			b[r.Intn(len(b))] ^= 1 << r.Intn(8)
		}
		l, want := walked(b, 0)
		wantWalk(t, "drawn", b, 0, want)
		wantAll(t, "drawn", record.All(b), l)
	}
}

// P5.4: of many batches each is gone over once, and not all that is left for each.
func TestWalkMany(t *testing.T) {
	one := batchBytes(api.Batch{Base: 7, Records: times(1, rec(5, "a", "bc"))})
	b := bytes.Repeat(one, 200000)
	wantWalk(t, "many", b, 0, api.Scan{Batches: 200000, Records: 200000, Size: len(b), Why: api.ErrEnd})
	n := 0
	for at := range record.All(b) {
		if at != n*len(one) {
			t.Fatal(at)
		}
		n++
	}
	if n != 200000 {
		t.Error(n)
	}
}

// P5.4: the whole ones with which the bytes begin, whatever stands behind them.
func TestAll(t *testing.T) {
	b, l := three()
	for name, tail := range tails() {
		wantAll(t, name, record.All(slices.Concat(b, tail.b)), l)
		wantAll(t, name, record.All(tail.b), nil)
	}
	wantAll(t, "a byte ahead", record.All(slices.Concat([]byte{0}, b)), nil)
	for name, x := range batches() {
		wantAll(t, name, record.All(batchBytes(x)), []placed{{0, x}})
	}
	if record.All(nil) == nil {
		t.Fatal("no iterator")
	}
	wantAll(t, "nil", record.All(nil), nil)
}

// P5.4: left at each batch, and gone over again from the first one on.
func TestAllLeft(t *testing.T) {
	b, l := three()
	all := record.All(b)
	for stop := range l {
		calls := 0
		all(func(at int, x api.Batch) bool {
			if at != l[calls].at || !same(x, l[calls].batch) {
				t.Error(stop, at)
			}
			calls++
			return calls <= stop
		})
		if calls != stop+1 {
			t.Errorf("asked %d times, left at %d", calls, stop)
		}
		for range all {
			break
		}
		wantAll(t, "behind being left", all, l)
	}
}

// P5.4: gone over within itself, and by two at a time.
func TestAllTwice(t *testing.T) {
	b, l := three()
	all := record.All(b)
	for range all {
		wantAll(t, "within", all, l)
	}
	one, stopOne := iter.Pull2(all)
	two, stopTwo := iter.Pull2(all)
	defer stopOne()
	defer stopTwo()
	one()
	for i := range 4 {
		at, _, ok := one()
		other, _, also := two()
		if ok != (i < 2) || ok && at != l[i+1].at || also != (i < 3) || also && other != l[i].at {
			t.Error(i, at, ok, other, also)
		}
	}
}

// P5.4: as the bytes are when All is called, whatever becomes of them ahead of going over, meanwhile, or between.
func TestAllStays(t *testing.T) {
	was, l := three()
	changes := map[string]func(b []byte){
		"cleared":      func(b []byte) { clear(b) },
		"first byte":   func(b []byte) { b[0]++ },
		"last byte":    func(b []byte) { b[len(b)-1]++ },
		"other value":  func(b []byte) { copy(b, batchBytes(api.Batch{Base: 8, Records: times(1, rec(5, "a", "bd"))})) },
		"length":       func(b []byte) { b[l[1].at] = 28 },
		"written over": func(b []byte) { scribble(b) },
	}
	for name, change := range changes {
		b := bytes.Clone(was)
		all := record.All(b)
		change(b)
		wantAll(t, name+" ahead", all, l)
		b = bytes.Clone(was)
		all = record.All(b)
		i := 0
		for at, x := range all {
			change(b)
			if at != l[i].at || !same(x, l[i].batch) {
				t.Error(name, "meanwhile", i)
			}
			i++
		}
		if i != len(l) {
			t.Error(name, "meanwhile", i)
		}
		wantAll(t, name+" behind", all, l)
	}
	room := append(bytes.Clone(was), was...)
	all := record.All(room[:len(was)])
	wantAll(t, "no more than its bytes", all, l)
	if !bytes.Equal(room, append(bytes.Clone(was), was...)) {
		t.Error("what was handed in has changed")
	}
}

// P5.4: each batch is new memory, each time.
func TestAllNewMemory(t *testing.T) {
	b, l := three()
	kept := bytes.Clone(b)
	all := record.All(b)
	var seen []api.Record
	for range 2 {
		for _, x := range all {
			seen = append(seen, x.Records...)
		}
	}
	wantApart(t, "all", seen)
	for _, x := range all {
		for i := range x.Records {
			scribble(x.Records[i].Key)
			scribble(x.Records[i].Value)
			x.Records[i].Time = 99
		}
	}
	wantAll(t, "written over", all, l)
	if !bytes.Equal(b, kept) {
		t.Error("what was handed in has changed")
	}
}
