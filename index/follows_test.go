package index_test

import (
	"math/rand"
	"slices"
	"testing"

	"millrace/api"
	"millrace/index"
)

// P9.1 to P9.4: drawn calls, held to the chapter's words.
func TestDrawn(t *testing.T) {
	r := rand.New(rand.NewSource(9))
	for range 300 {
		step := []int{1, 2, 5, 10, 1000, maxStep}[r.Intn(6)]
		x, p := indexOf(t, step), &plain{step: step}
		for range 60 {
			drawnCall(t, r, x, p)
		}
		wantSpots(t, "drawn", x, step, p.spots...)
		wantFollows(t, x, p)
		if t.Failed() {
			t.FailNow()
		}
	}
}

// drawnCall calls both alike.
func drawnCall(t *testing.T, r *rand.Rand, x *index.Index, p *plain) {
	t.Helper()
	near := spot(int64(r.Intn(8)-2), r.Intn(3*min(p.step, 50))-2)
	if len(p.spots) > 0 {
		last := p.spots[len(p.spots)-1]
		near.Offset += last.Offset
		near.Place += last.Place
	}
	switch r.Intn(8) {
	case 0, 1, 2, 3:
		added, e := p.add(near)
		wantAdd(t, x, near, added, e)
	case 4:
		s := spot(int64(r.Intn(1<<30)), r.Intn(api.MaxSize+9))
		added, e := p.add(s)
		wantAdd(t, x, s, added, e)
		wantCut(t, "drawn", x, s.Place, p.cut(s.Place))
	case 5:
		s, ok := p.find(near.Offset)
		wantFind(t, "drawn", x, near.Offset, s, ok)
	case 6:
		s, ok := p.at(near.Place)
		wantAt(t, "drawn", x, near.Place, s, ok)
	case 7:
		if r.Intn(4) == 0 {
			near.Place -= r.Intn(200)
			wantCut(t, "drawn", x, near.Place, p.cut(near.Place))
		}
	}
}

// wantFollows asks for what follows: P9.4.
func wantFollows(t *testing.T, x *index.Index, p *plain) {
	t.Helper()
	b, e := x.Bytes()
	if e != api.OK {
		t.Fatal(e)
	}
	y, e := index.Read(b)
	if e != api.OK {
		t.Fatalf("P9.4: Read of Bytes: %v", e)
	}
	wantSpots(t, "P9.4: Read of Bytes", y, p.step, p.spots...)
	if c, e := y.Bytes(); !slices.Equal(b, c) || e != api.OK {
		t.Errorf("P9.4: Bytes of what was read: %v %v, want %v", c, e, b)
	}
	for i, s := range p.spots {
		for _, offset := range []int64{s.Offset - 1, s.Offset, s.Offset + 1} {
			wantBetween(t, x, p.spots, offset)
		}
		if i > 0 && s.Place-p.spots[i-1].Place < p.step {
			t.Errorf("%v is nearer than a step behind %v", s, p.spots[i-1])
		}
	}
}

// wantBetween asks for a spot that is at most the offset, the next one being above it: P9.4.
func wantBetween(t *testing.T, x *index.Index, spots []api.Spot, offset int64) {
	t.Helper()
	s, ok := x.Find(offset)
	next := 0
	if ok {
		next = slices.Index(spots, s) + 1
		if next == 0 || s.Offset > offset {
			t.Errorf("P9.4: Find(%d): %v", offset, s)
		}
	}
	if next < len(spots) && spots[next].Offset <= offset {
		t.Errorf("P9.4: Find(%d): %v, the next is %v", offset, s, spots[next])
	}
}

// P9.4, P0.5: what Read takes is just the bytes of indexes, drawn near such ones.
func TestDrawnBytes(t *testing.T) {
	r := rand.New(rand.NewSource(19))
	taken := 0
	for range 30000 {
		b := drawnBytes(r)
		x, e := index.Read(b)
		p, ok := read(b)
		if !ok {
			if x != nil || e != api.ErrIndex {
				t.Fatalf("Read(%v): %v %v", b, x, e)
			}
			continue
		}
		taken++
		if e != api.OK {
			t.Fatalf("Read(%v): %v", b, e)
		}
		wantSpots(t, "drawn bytes", x, p.step, p.spots...)
		if c, _ := x.Bytes(); !slices.Equal(b, c) {
			t.Fatalf("P9.4: Bytes of what was read: %v, want %v", c, b)
		}
	}
	if taken < 3000 || taken > 27000 {
		t.Errorf("%d were taken", taken)
	}
}

// drawnBytes are bytes of an index, of which some have turned.
func drawnBytes(r *rand.Rand) []byte {
	step := 1 + r.Intn(4)
	var spots []api.Spot
	at := spot(int64(r.Intn(3)), r.Intn(5))
	for range r.Intn(5) {
		spots = append(spots, at)
		at = spot(at.Offset+1+int64(r.Intn(3)), at.Place+step+r.Intn(4))
	}
	b := bytesOf(uint64(step), uint64(len(spots)), spots...)
	for range r.Intn(3) {
		i := r.Intn(len(b))
		b[i] = byte(int(b[i]) + r.Intn(5) - 2)
	}
	if r.Intn(10) == 0 {
		b = b[:r.Intn(len(b))]
	}
	return b
}

// P9.4: behind spots of a file's batches, one by one, none lies a step and its own bytes, or more, behind the spot ahead of it.
func TestBatches(t *testing.T) {
	r := rand.New(rand.NewSource(29))
	for _, step := range []int{1, 2, 33, 64, 500, 4096, 70000, maxStep} {
		x := indexOf(t, step)
		var batches []api.Spot
		var sizes []int
		at := spot(int64(r.Intn(1000)), 0)
		for range 400 {
			size := 33 + r.Intn([]int{1, 20, 500, 9000}[r.Intn(4)])
			batches, sizes = append(batches, at), append(sizes, size)
			if _, e := x.Add(at); e != api.OK {
				t.Fatalf("Add(%v): %v", at, e)
			}
			at = spot(at.Offset+1+int64(r.Intn(256)), at.Place+size)
		}
		for i, b := range batches {
			s, ok := x.At(b.Place)
			if !ok || s.Place > b.Place || b.Place+sizes[i]-s.Place >= step+sizes[i] {
				t.Errorf("P9.4: step %d: the batch at %v of %d bytes, the spot ahead %v %v", step, b, sizes[i], s, ok)
			}
			if o, _ := x.Find(b.Offset); o != s || !slices.Contains(batches, s) {
				t.Errorf("P9.4: step %d: by offset %v, by place %v", step, o, s)
			}
		}
	}
}
