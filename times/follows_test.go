package times_test

import (
	"math/rand"
	"slices"
	"testing"

	"millrace/api"
	"millrace/times"
)

// P12.1 to P12.7: drawn calls, held to the chapter's words.
func TestDrawn(t *testing.T) {
	r := rand.New(rand.NewSource(12))
	for range 300 {
		base := []int64{0, 1, 500, maxOffset - 40, maxOffset - 5, maxOffset}[r.Intn(6)]
		x, p := indexOf(t, base), &plain{base: base}
		for range 60 {
			drawnCall(t, r, x, p)
		}
		wantIndex(t, "drawn", x, base, p.end(), p.rises()...)
		wantFollows(t, x, p)
		if t.Failed() {
			t.FailNow()
		}
	}
}

// drawnTimes are some times around where the greatest one is, seldom one that may not be.
func drawnTimes(r *rand.Rand, p *plain) []int64 {
	greatest, _ := p.until(1<<63 - 1)
	l := make([]int64, r.Intn(5))
	for i := range l {
		l[i] = max(greatest+int64(r.Intn(9))-6, 0)
		if r.Intn(60) == 0 {
			l[i] = []int64{-1, maxTime + 1, maxTime}[r.Intn(3)]
		}
	}
	return l
}

// drawnCall calls both alike.
func drawnCall(t *testing.T, r *rand.Rand, x *times.Index, p *plain) {
	t.Helper()
	switch r.Intn(9) {
	case 0, 1, 2, 3:
		l := drawnTimes(r, p)
		wantErr(t, "Put", x.Put(records(l...)...), p.put(l...))
	case 4:
		l := drawnTimes(r, &plain{})
		o := &plain{base: min(p.end()+int64(r.Intn(4)/3), maxOffset)}
		y := indexOf(t, o.base)
		wantErr(t, "Put", y.Put(records(l...)...), o.put(l...))
		wantErr(t, "Join", x.Join(y), p.join(o))
		wantIndex(t, "joined", y, o.base, o.end(), o.rises()...)
	case 5:
		end := p.end() + 1 - int64(r.Intn(6))
		wantErr(t, "Cut", x.Cut(end), p.cut(end))
	case 6:
		wantBoth(t, x, p, p.base+int64(r.Intn(60))-5)
	case 7:
		wantBoth(t, x, p, int64(r.Intn(60))-5)
	case 8:
		wantIndex(t, "drawn", x, p.base, p.end(), p.rises()...)
	}
}

// wantFollows asks for what follows: P12.7.
func wantFollows(t *testing.T, x *times.Index, p *plain) {
	t.Helper()
	last := rise(-1, -1)
	for _, r := range x.Rises() {
		if r.Offset <= last.Offset || r.Time <= last.Time {
			t.Errorf("P12.7: %v behind %v", r, last)
		}
		last = r
		for _, time := range []int64{r.Time - 1, r.Time, r.Time + 1} {
			wantCounterpart(t, x, time)
		}
	}
	b := x.Bytes()
	y, e := times.Open(b)
	if e != api.OK {
		t.Fatalf("P12.7: Open of Bytes: %v", e)
	}
	wantSame(t, "P12.7: Open of Bytes", x, y, true)
	wantIndex(t, "P12.7: Open of Bytes", y, p.base, p.end(), p.rises()...)
	for i := range b {
		wantRefused(t, "P12.7: a beginning", b[:i], api.ErrMore)
	}
}

// wantCounterpart asks Until of what Find tells: P12.7.
func wantCounterpart(t *testing.T, x *times.Index, time int64) {
	t.Helper()
	offset, found := x.Find(time)
	if !found {
		if greatest, ok := x.Until(x.End()); ok && greatest >= time {
			t.Errorf("P12.7: Find(%d) finds none, but %d is there", time, greatest)
		}
		return
	}
	if n, ok := x.Until(offset); !ok || n < time {
		t.Errorf("P12.7: Find(%d) is %d, Until of it %d %v", time, offset, n, ok)
	}
	if n, ok := x.Until(offset - 1); ok && n >= time {
		t.Errorf("P12.7: Find(%d) is %d, Until of one less %d", time, offset, n)
	}
}

// P12.7: in one go or in parts, joined or cut, the index is the same.
func TestParts(t *testing.T) {
	r := rand.New(rand.NewSource(22))
	for range 400 {
		l := make([]int64, r.Intn(30))
		for i := range l {
			l[i] = int64(r.Intn(25))
		}
		base := int64(r.Intn(3) * 100)
		whole := indexOf(t, base, l...)
		parts := indexOf(t, base)
		for _, n := range l {
			wantErr(t, "Put", parts.Put(api.Record{Time: n}), api.OK)
		}
		wantSame(t, "P12.7: one by one", whole, parts, true)
		for i := range len(l) + 1 {
			at := base + int64(i)
			first, second := indexOf(t, base, l[:i]...), indexOf(t, at, l[i:]...)
			cut := whole.Copy()
			wantErr(t, "Cut", cut.Cut(at), api.OK)
			wantSame(t, "P12.7: Cut", cut, first, true)
			wantErr(t, "Put", cut.Put(records(l[i:]...)...), api.OK)
			wantSame(t, "P12.7: in two parts", cut, whole, true)
			wantErr(t, "Join", first.Join(second), api.OK)
			wantSame(t, "P12.7: Join", first, whole, true)
		}
		if t.Failed() {
			t.FailNow()
		}
	}
}

// P12.5, P12.7, P0.5: what Open takes is just the bytes of indexes, drawn near such ones.
func TestDrawnBytes(t *testing.T) {
	r := rand.New(rand.NewSource(32))
	counts := map[api.Errno]int{}
	for range 30000 {
		b := drawnBytes(r)
		x, e := times.Open(b)
		want := told(b)
		counts[want]++
		if e != want || (x != nil) != (want == api.OK) {
			t.Fatalf("Open(%v): %v %v, want %v", b, x, e, want)
		}
		if want == api.OK && !slices.Equal(x.Bytes(), b) {
			t.Fatalf("P12.7: Bytes of what was opened: %v, want %v", x.Bytes(), b)
		}
	}
	for _, e := range []api.Errno{api.OK, api.ErrMore, api.ErrTimes} {
		if counts[e] < 3000 {
			t.Errorf("%v was told %d times", e, counts[e])
		}
	}
}

// drawnBytes are bytes of an index, of which some have turned.
func drawnBytes(r *rand.Rand) []byte {
	base := int64(r.Intn(4))
	at := rise(base, int64(r.Intn(3)))
	var rises []api.Rise
	for range r.Intn(5) {
		rises = append(rises, at)
		at = rise(at.Offset+1+int64(r.Intn(2)), at.Time+1+int64(r.Intn(2)))
	}
	end := at.Offset + int64(r.Intn(2))
	b := bytesOf(uint64(base), uint64(end), uint64(len(rises)), rises...)
	for range r.Intn(3) {
		i := r.Intn(len(b))
		b[i] = byte(int(b[i]) + r.Intn(5) - 2)
	}
	if r.Intn(8) == 0 {
		b = b[:r.Intn(len(b))]
	}
	return b
}
