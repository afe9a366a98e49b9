package segment_test

import (
	"fmt"
	"math/rand"
	"slices"
	"testing"

	"millrace/api"
	"millrace/segment"
)

// three is a plain segment of three batches.
func three(base int64) *plain {
	p := &plain{base: base, step: 50}
	p.add(some(2, 0)...)
	p.add(some(1, 40)...)
	p.add(some(3, 80)...)
	return p
}

// wantAsFound asks Look, Open and Mend for what goes with what is to be found in these bytes.
func wantAsFound(t *testing.T, what string, name string, b []byte, found api.Found, p *plain) {
	t.Helper()
	wantFound(t, what, laid(t, name, b), name, found)
	d := laid(t, name, b, fail(0))
	s, e := segment.Open(d, name, 50)
	wantSteps(t, what+": Open", d, 4, 1)
	right := *p
	right.batches = p.batches[:found.Batches]
	if found.Why == api.ErrEnd {
		oks(t, e)
		wantSegment(t, what+": Open", s, &right)
	} else if s != nil || e != found.Why {
		t.Errorf("%s: Open: %v, want %v", what, e, found.Why)
	}
	wantMend(t, what, name, b, found, &right)
}

// wantMend asks Mend for what goes with what is to be found in these bytes, whose batches are right.
func wantMend(t *testing.T, what string, name string, b []byte, found api.Found, right *plain) {
	t.Helper()
	d := laid(t, name, b)
	f, e := segment.Mend(d, name)
	steps := 4
	switch found.Why {
	case api.ErrCorrupt:
		if f != (api.Found{}) || e != api.ErrCorrupt {
			t.Errorf("%s: Mend: %v %v", what, f, e)
		}
		wantFile(t, what+": Mend", d, name, b, len(b))
		wantSteps(t, what+": Mend", d, steps, 0)
		return
	case api.ErrTorn:
		steps += 2
	}
	if f != found || e != api.OK {
		t.Errorf("%s: Mend: %v %v, want %v", what, f, e, found)
	}
	wantFile(t, what+": Mend", d, name, right.bytes(), found.Size)
	wantSteps(t, what+": Mend", d, steps, 0)
	found.Why = api.ErrEnd
	wantFound(t, what+": behind Mend", d, name, found)
	if f, e := segment.Mend(d, name); f != found || e != api.OK {
		t.Errorf("%s: Mend twice: %v %v, want %v", what, f, e, found)
	}
	wantSteps(t, what+": Mend twice", d, steps, 0)
	s, e := segment.Open(d, name, right.step)
	oks(t, e)
	wantSegment(t, what+": Open behind Mend", s, right)
}

// P10.2: of each beginning of batches: whole ones, and what stands behind them.
func TestEachBeginning(t *testing.T) {
	for _, base := range []int64{0, 5, api.MaxOffset - 5} {
		p, name := three(base), nameOf(t, "p", base)
		b := p.bytes()
		for n := range len(b) + 1 {
			wantAsFound(t, fmt.Sprint(n, " bytes"), name, b[:n], foundIn(b[:n], base, p.batches), p)
		}
	}
}

// P10.2: batches that are whole, but not in their place, are corrupt.
func TestOtherBase(t *testing.T) {
	p := three(5)
	good := p.bytes()
	for _, ahead := range []int{0, 1, 2, 3} {
		of := &plain{base: 5, batches: p.batches[:ahead]}
		found := api.Found{Batches: ahead, End: of.end(), Size: len(of.bytes()), Why: api.ErrCorrupt}
		for _, base := range []int64{0, of.end() - 1, of.end() + 1, of.end() + 2, 4, api.MaxOffset} {
			other := batchBytes(api.Batch{Base: base, Records: some(1, 7)})
			b := slices.Concat(of.bytes(), other)
			wantAsFound(t, fmt.Sprint("number ", ahead, " from ", base), "p-00000000000005", b, found, p)
			wantAsFound(t, "with more behind", "p-00000000000005", slices.Concat(b, good), found, p)
			torn := found
			torn.Why = api.ErrTorn
			wantAsFound(t, "torn, of another base", "p-00000000000005", b[:len(b)-1], torn, p)
		}
	}
	// The name says the base: by another one none of the batches is in its place.
	for _, base := range []int64{0, 4, 6, 7, 8, api.MaxOffset} {
		wantAsFound(t, "another name", nameOf(t, "p", base), good, api.Found{End: base, Why: api.ErrCorrupt}, &plain{base: base, step: 50})
	}
	found := api.Found{Batches: 3, End: 11, Size: len(good), Why: api.ErrEnd}
	wantAsFound(t, "another log", "abcdefgh-00000000000005", good, found, p)
}

// P10.2: what stands behind batches, and can be none.
func TestTails(t *testing.T) {
	p := three(5)
	for what, x := range map[string]struct {
		tail []byte
		why  api.Errno
	}{
		"four bytes of 255": {[]byte{255, 255, 255, 255}, api.ErrCorrupt},
		"three of them":     {[]byte{255, 255, 255}, api.ErrTorn},
		"noughts":           {make([]byte, 40), api.ErrCorrupt},
		"27":                {[]byte{27, 0, 0, 0}, api.ErrCorrupt},
		"28":                {[]byte{28, 0, 0, 0}, api.ErrTorn},
		"MaxBatch - 4":      {[]byte{252, 255, 0, 0}, api.ErrTorn},
		"MaxBatch - 3":      {[]byte{253, 255, 0, 0}, api.ErrCorrupt},
		"no records":        {batchBytes(api.Batch{Base: 11}), api.ErrCorrupt},
		"wrong records":     {batchBytes(api.Batch{Base: 11, Records: []api.Record{{Time: -1}}}), api.ErrCorrupt},
		"the last again":    {batchBytes(p.batches[2]), api.ErrCorrupt},
	} {
		b := slices.Concat(p.bytes(), x.tail)
		wantAsFound(t, what, "p-00000000000005", b, api.Found{Batches: 3, End: 11, Size: len(p.bytes()), Why: x.why}, p)
		wantAsFound(t, what+", alone", "p-00000000000005", x.tail, api.Found{End: 5, Why: x.why}, &plain{base: 5, step: 50})
	}
}

// P10.2: each byte changed.
func TestEachByte(t *testing.T) {
	p := three(5)
	good := p.bytes()
	for i := range good {
		for _, by := range []byte{1, 0x80, 0xff} {
			b := slices.Clone(good)
			b[i] ^= by
			wantAsFound(t, fmt.Sprint("byte ", i), "p-00000000000005", b, foundIn(b, 5, p.batches), p)
		}
	}
}

// P10.2: a segment that was opened goes on, on its disk; its index is of the step that was told.
func TestOpenGoesOn(t *testing.T) {
	const name = "p-00000000000005"
	for _, step := range goodSteps() {
		d := fresh(t)
		_, p := filled(t, d, 5, 64, 1, 2, 3)
		s, e := segment.Open(d, name, step)
		oks(t, e)
		p.step = step
		wantSegment(t, "opened", s, p)
		want(t, "no end", s.Append(api.Batch{Base: 10, Records: some(1, 0)}), api.ErrRange)
		for i := range 5 {
			oks(t, s.Append(p.add(some(2, 50*i)...)))
		}
		wantSegment(t, "goes on", s, p)
		wantFile(t, "goes on", d, name, p.bytes(), 0)
		oks(t, s.Sync())
		wantFile(t, "synced", d, name, p.bytes(), len(p.bytes()))
	}
}

// P10.2: names and steps that may not be, also where such a file is there; they go ahead of the disk's errors, and do no step.
func TestOpenArg(t *testing.T) {
	d := fresh(t)
	_, p := filled(t, d, 5, 64, 1, 2)
	names := []string{"", "p", "p-5", "P-00000000000005", "p-0000000000000F", "p-20000000000001", "abcdefghi-00000000000005", "5-00000000000005", "a/b"}
	for _, name := range names {
		d.Create(name)
		d.Append(name, p.bytes())
	}
	steps, _ := d.Steps()
	oks(t, d.Feed(fail(0)))
	for _, name := range names {
		want(t, "Look "+name, lookError(d, name), api.ErrArg)
		want(t, "Open "+name, openError(d, name, 64), api.ErrArg)
		want(t, "Open, no step, "+name, openError(d, name, 0), api.ErrArg)
		want(t, "Mend "+name, mendError(d, name), api.ErrArg)
	}
	for _, step := range badSteps() {
		want(t, "Open", openError(d, "p-00000000000005", step), api.ErrArg)
		want(t, "Open of none", openError(d, "p-00000000000006", step), api.ErrArg)
	}
	wantSteps(t, "refused", d, steps, 1)
	corrupt := laid(t, "p-00000000000005", make([]byte, 4))
	want(t, "no step, corrupt", openError(corrupt, "p-00000000000005", 0), api.ErrArg)
}

// P10.2: the disk's errors: the file is not there, or may come back.
func TestNotThere(t *testing.T) {
	d := fresh(t)
	s, _ := filled(t, d, 5, 64, 1)
	oks(t, s.Sync(), d.SyncDir())
	wantNone := func(what, name string) {
		t.Helper()
		want(t, what+": Look", lookError(d, name), api.ErrNone)
		want(t, what+": Open", openError(d, name, 64), api.ErrNone)
		want(t, what+": Mend", mendError(d, name), api.ErrNone)
	}
	for _, name := range []string{"p-00000000000004", "p-00000000000006", "q-00000000000005", "pp-00000000000005"} {
		wantNone("none", name)
	}
	oks(t, d.Remove("p-00000000000005"))
	wantNone("may come back", "p-00000000000005")
	oks(t, d.SyncDir())
	wantNone("gone", "p-00000000000005")
}

// P10.2: of Mend's two steps the first error ends it.
func TestMendFates(t *testing.T) {
	const name = "p-00000000000005"
	p := three(5)
	good := p.bytes()
	b := slices.Concat(good, []byte{1, 2, 3})
	for _, x := range []struct {
		fates []api.Fate
		e     api.Errno
		left  []byte
		steps int
	}{
		{[]api.Fate{fail(2), fail(0)}, api.ErrDisk, b, 1},
		{[]api.Fate{full(0), fail(0)}, api.ErrFull, b, 1},
		{[]api.Fate{{}, fail(0), fail(0)}, api.ErrDisk, good, 2},
		{[]api.Fate{{}, full(9), fail(0)}, api.ErrFull, good, 2},
		{[]api.Fate{{}, {}, fail(0)}, api.OK, good, 2},
	} {
		d := laid(t, name, b, x.fates...)
		want(t, fmt.Sprint(x.fates), mendError(d, name), x.e)
		wantFile(t, fmt.Sprint(x.fates), d, name, x.left, len(x.left))
		wantSteps(t, fmt.Sprint(x.fates), d, 4+x.steps, 1)
	}
	// What is right, or corrupt, takes no step, and so no fate.
	d := laid(t, name, good, fail(0))
	want(t, "right", mendError(d, name), api.OK)
	wantSteps(t, "right", d, 4, 1)
	d = laid(t, name, slices.Concat(good, make([]byte, 4)), fail(0))
	want(t, "corrupt", mendError(d, name), api.ErrCorrupt)
	wantSteps(t, "corrupt", d, 4, 1)
}

// P10.2: Mend lets what it leaves last, though it did not, of that file alone; of what is right it lets none.
func TestMendSyncs(t *testing.T) {
	d := fresh(t)
	_, p := filled(t, d, 5, 64, 2, 1)
	_, q := filled(t, d, 9, 64, 2, 1)
	oks(t, d.Append("p-00000000000005", []byte("...")))
	for _, name := range []string{"p-00000000000005", "p-00000000000009"} {
		want(t, name, mendError(d, name), api.OK)
	}
	wantFile(t, "torn", d, "p-00000000000005", p.bytes(), len(p.bytes()))
	wantFile(t, "right", d, "p-00000000000009", q.bytes(), 0)
	if f, _ := d.File("p-00000000000005"); f.NameLasts {
		t.Error("its name lasts")
	}
}

// P10.2: a file with as many bytes as a file may have.
func TestLookMaxSize(t *testing.T) {
	p := &plain{base: 5, step: 50}
	for range api.MaxSize/api.MaxBatch - 1 {
		p.add(ofSize(api.MaxBatch)...)
	}
	p.add(ofSize(api.MaxBatch - 100)...)
	b := p.bytes()
	const name = "p-00000000000005"
	found := api.Found{Batches: len(p.batches), End: p.end(), Size: len(b), Why: api.ErrTorn}
	wantFound(t, "three bytes more", laid(t, name, slices.Concat(b, []byte{255, 255, 255})), name, found)
	tail := make([]byte, 100)
	tail[0] = 97
	wantFound(t, "torn by one byte", laid(t, name, slices.Concat(b, tail)), name, found)
	tail[0], found.Why = 96, api.ErrCorrupt
	wantFound(t, "not torn", laid(t, name, slices.Concat(b, tail)), name, found)
}

// P10.2: drawn files: batches, of which some have other bases, cut and changed somewhere.
func TestDrawnFiles(t *testing.T) {
	r := rand.New(rand.NewSource(102))
	why := map[api.Errno]int{}
	for range 1500 {
		p := &plain{base: int64(r.Intn(3)), step: 50}
		for range r.Intn(5) {
			p.add(some(1+r.Intn(3), r.Intn(50))...)
			if r.Intn(8) == 0 {
				p.batches[len(p.batches)-1].Base += int64(r.Intn(3) - 1)
			}
		}
		b := append(p.bytes(), make([]byte, r.Intn(2)*r.Intn(6))...)
		if len(b) > 0 && r.Intn(4) == 0 {
			b = b[:r.Intn(len(b))]
		}
		if len(b) > 0 && r.Intn(4) == 0 {
			b[r.Intn(len(b))] ^= 1 << r.Intn(8)
		}
		f := foundIn(b, p.base, p.batches)
		why[f.Why]++
		wantAsFound(t, "drawn", nameOf(t, "p", p.base), b, f, p)
		if t.Failed() {
			t.FailNow()
		}
	}
	for _, e := range []api.Errno{api.ErrEnd, api.ErrTorn, api.ErrCorrupt} {
		if why[e] < 100 {
			t.Errorf("%v: %d times", e, why[e])
		}
	}
}

// P10.2: Look tells of the disk as it is: twice the same, then what was appended since.
func TestLookAgain(t *testing.T) {
	const name = "p-00000000000005"
	d := fresh(t)
	s, p := created(t, d, 5, 64)
	for i := range 4 {
		f := api.Found{Batches: i, End: p.end(), Size: len(p.bytes()), Why: api.ErrEnd}
		wantFound(t, "once", d, name, f)
		wantFound(t, "twice", d, name, f)
		oks(t, s.Append(p.add(some(2, i)...)))
	}
	o := d.Copy()
	oks(t, o.Cut(name, 1))
	wantFound(t, "a copy", o, name, api.Found{End: 5, Why: api.ErrTorn})
	wantSegment(t, "the disk itself", s, p)
}
