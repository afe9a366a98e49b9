package segment_test

import (
	"fmt"
	"slices"
	"testing"

	"millrace/api"
	"millrace/segment"
)

// P10.2 to P10.4: the chapter's examples.
func TestExamples(t *testing.T) {
	d := fresh(t)
	r := rec(5, "a", "bc")
	s, e := segment.Create(d, "p", 5, 64)
	oks(t, e, s.Append(api.Batch{Base: 5, Records: []api.Record{r, r}}))
	want(t, "Append", s.Append(api.Batch{Base: 8, Records: []api.Record{r}}), api.ErrRange)
	p := &plain{base: 5, step: 64}
	p.add(r, r)
	wantSegment(t, "s", s, p)
	for _, x := range [][2]int64{{5, 7}, {6, 7}, {4, 7}, {7, 7}} {
		wantRead(t, "s", s, p, x[0], x[1], 9)
	}
	oks(t, s.Sync(), s.Append(api.Batch{Base: 7, Records: []api.Record{r}}), d.SyncDir())
	o := crashed(t, d, 3)
	const name = "p-00000000000005"
	torn := api.Found{Batches: 1, End: 7, Size: 50, Why: api.ErrTorn}
	wantFound(t, "Look", o, name, torn)
	want(t, "Open", openError(o, name, 64), api.ErrTorn)
	if f, e := segment.Mend(o, name); f != torn || e != api.OK {
		t.Errorf("Mend: %v %v", f, e)
	}
	x, e := segment.Open(o, name, 64)
	oks(t, e)
	wantSegment(t, "behind Mend", x, p)
}

// P10.2: a segment without batches, whose file is new; neither it nor its name lasts.
func TestCreate(t *testing.T) {
	for _, base := range []int64{0, 1, 15, 1 << 40, api.MaxOffset - 1, api.MaxOffset} {
		for _, step := range goodSteps() {
			d := fresh(t)
			s, p := created(t, d, base, step)
			wantSegment(t, "new", s, p)
			name := nameOf(t, "p", base)
			if f, e := d.File(name); f != (api.File{Name: name, There: true}) || e != api.OK {
				t.Errorf("%d: %v %v", base, f, e)
			}
			if l := d.Names(); !slices.Equal(l, []string{name}) {
				t.Error(l)
			}
			wantSteps(t, "new", d, 1, 0)
			wantFound(t, "new", d, name, api.Found{End: base, Why: api.ErrEnd})
			if l := crashed(t, d).Names(); len(l) != 0 {
				t.Error("its name lasts", l)
			}
		}
	}
}

// P10.2: many on one disk, apart.
func TestCreateApart(t *testing.T) {
	d := fresh(t)
	var l []*segment.Segment
	var plains []*plain
	for i, log := range []string{"p", "q", "pq", "abcdefgh"} {
		s, e := segment.Create(d, log, int64(7*i), 40)
		oks(t, e)
		l, plains = append(l, s), append(plains, &plain{base: int64(7 * i), step: 40})
	}
	for round := range 5 {
		for i, s := range l {
			oks(t, s.Append(plains[i].add(some(1+i, 100*round+i)...)))
		}
	}
	for i, s := range l {
		wantSegment(t, fmt.Sprint(i), s, plains[i])
	}
	if names := d.Names(); !slices.Equal(names, []string{"abcdefgh-00000000000015", "p-00000000000000", "pq-0000000000000e", "q-00000000000007"}) {
		t.Error(names)
	}
}

// P10.2: logs, bases and steps that may not be: no step is done, no fate taken.
func TestCreateArg(t *testing.T) {
	d := fresh(t, fail(0))
	for _, log := range []string{"", "P", "abcdefghi", "p-", "p0", ".", "\x00"} {
		want(t, log, createError(d, log, 0, 64), api.ErrArg)
	}
	for _, base := range far() {
		want(t, fmt.Sprint(base), createError(d, "p", base, 64), api.ErrArg)
	}
	for _, step := range badSteps() {
		want(t, fmt.Sprint(step), createError(d, "p", 0, step), api.ErrArg)
	}
	wantSteps(t, "refused", d, 0, 1)
	if l := d.Names(); len(l) != 0 {
		t.Error(l)
	}
}

// P10.2: no disk, whatever else is wrong.
func TestNoDisk(t *testing.T) {
	for what, d := range noDisks() {
		for _, step := range append(badSteps(), 64) {
			want(t, what, createError(d, "p", 5, step), api.ErrNil)
			want(t, what, createError(d, "P", 5, step), api.ErrNil)
			want(t, what, createError(d, "p", -1, step), api.ErrNil)
			want(t, what, openError(d, "p-00000000000005", step), api.ErrNil)
			want(t, what, openError(d, "p-5", step), api.ErrNil)
		}
		for _, name := range []string{"p-00000000000005", "p-5", "", "A"} {
			want(t, what, lookError(d, name), api.ErrNil)
			want(t, what, mendError(d, name), api.ErrNil)
		}
	}
}

// P10.2: disk.Create's errors; nothing has changed.
func TestCreateDisk(t *testing.T) {
	d := fresh(t, fail(3), full(0))
	want(t, "failed", createError(d, "p", 5, 64), api.ErrDisk)
	want(t, "full", createError(d, "p", 5, 64), api.ErrFull)
	if l := d.Names(); len(l) != 0 {
		t.Error(l)
	}
	s, p := filled(t, d, 5, 64, 2, 1)
	want(t, "there", createError(d, "p", 5, 64), api.ErrThere)
	wantSegment(t, "there", s, p)
	want(t, "there, no step", createError(d, "p", 5, 0), api.ErrArg)
	oks(t, s.Sync(), d.SyncDir(), d.Remove("p-00000000000005"))
	want(t, "may come back", createError(d, "p", 5, 64), api.ErrThere)
	for i := len(d.Names()) + 1; i < api.MaxFiles; i++ {
		oks(t, d.Create(fmt.Sprint("n-", i)))
	}
	want(t, "too many", createError(d, "p", 6, 64), api.ErrFull)
	want(t, "too many, may come back", createError(d, "p", 5, 64), api.ErrThere)
	want(t, "too many, no log", createError(d, "p.", 6, 64), api.ErrArg)
}
