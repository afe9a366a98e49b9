package marks_test

import (
	"math"
	"math/rand"
	"slices"
	"testing"

	"millrace/api"
	"millrace/marks"
)

// P14.2: the chapter's example.
func TestBoardExample(t *testing.T) {
	b := marks.NewBoard()
	publish(t, b, 1, 1, 2)
	publish(t, b, 2)
	wantBoard(t, "none", b, 2)
	v, e := b.Turn(func(l []int64) []int64 { return append(l, 9) })
	wantVersion(t, "Turn", v, e, 3)
	wantBoard(t, "turned", b, 3, 9)
}

// P14.2: a new board and a zero one have no numbers, version 0, and go on alike.
func TestBoardNew(t *testing.T) {
	var zero marks.Board
	for what, b := range map[string]*marks.Board{"new": marks.NewBoard(), "zero": &zero} {
		wantBoard(t, what, b, 0)
		asked := 0
		v, e := b.Turn(func(l []int64) []int64 {
			asked++
			if len(l) != 0 {
				t.Errorf("%s: asked with %v", what, l)
			}
			return []int64{4}
		})
		wantVersion(t, what, v, e, 1)
		wantBoard(t, what, b, 1, 4)
		publish(t, b, 2, math.MinInt64, math.MaxInt64, 0, 0)
		wantBoard(t, what, b, 2, math.MinInt64, math.MaxInt64, 0, 0)
		if asked != 1 {
			t.Errorf("%s: asked %d times", what, asked)
		}
	}
	var first marks.Board
	publish(t, &first, 1, 3)
	wantBoard(t, "zero, published", &first, 1, 3)
}

// P14.2: what a nil board answers; it asks no function.
func TestBoardNil(t *testing.T) {
	var none *marks.Board
	v, e := none.Publish(1)
	wantRefused(t, "Publish", v, e)
	v, e = none.Publish()
	wantRefused(t, "Publish of none", v, e)
	v, e = none.Turn(nil)
	wantRefused(t, "Turn of none", v, e)
	v, e = none.Turn(func(l []int64) []int64 {
		t.Error("asked")
		return l
	})
	wantRefused(t, "Turn", v, e)
	if l, v := none.Get(); len(l) != 0 || v != 0 {
		t.Errorf("Get: %v, %d", l, v)
	}
}

// P14.2: without a function nothing is changed.
func TestTurnNil(t *testing.T) {
	b := marks.NewBoard()
	v, e := b.Turn(nil)
	wantRefused(t, "Turn", v, e)
	wantBoard(t, "as it was", b, 0)
	publish(t, b, 1, 7, 8)
	v, e = b.Turn(nil)
	wantRefused(t, "Turn", v, e)
	wantBoard(t, "as it was", b, 1, 7, 8)
	publish(t, b, 2, 9)
}

// P14.2: no numbers are published like others, nil or empty, and so are those that are there already.
func TestBoardNone(t *testing.T) {
	b := marks.NewBoard()
	publish(t, b, 1, nil...)
	publish(t, b, 2, []int64{}...)
	publish(t, b, 3, 5)
	publish(t, b, 4, 5)
	wantBoard(t, "the same anew", b, 4, 5)
	for i, none := range [][]int64{nil, {}} {
		v, e := b.Turn(func(l []int64) []int64 { return none })
		wantVersion(t, "turned to none", v, e, int64(5+i))
		wantBoard(t, "turned to none", b, int64(5+i))
	}
}

// P14.2: boards stand apart.
func TestBoardsApart(t *testing.T) {
	a, b := marks.NewBoard(), marks.NewBoard()
	publish(t, a, 1, 1)
	publish(t, a, 2, 2)
	publish(t, b, 1, 3)
	wantBoard(t, "one", a, 2, 2)
	wantBoard(t, "the other", b, 1, 3)
}

// P14.2: a published list is a copy, and so is each that is told, the room behind it too.
func TestBoardMemory(t *testing.T) {
	b := marks.NewBoard()
	whole := []int64{1, 2, 3, 4, 5}
	publish(t, b, 1, whole[:3]...)
	if !slices.Equal(whole, rising(1, 5)) {
		t.Error("changed", whole)
	}
	spoil(whole)
	wantBoard(t, "what was handed in is spoilt", b, 1, 1, 2, 3)
	one, _ := b.Get()
	two, _ := b.Get()
	spoil(one)
	if !slices.Equal(two, rising(1, 3)) {
		t.Error("the other answer", two)
	}
	wantBoard(t, "what was told is spoilt", b, 1, 1, 2, 3)
	publish(t, b, 2, 6, 7, 8)
	if !slices.Equal(two, rising(1, 3)) {
		t.Error("told ahead of the next list", two)
	}
}

// P14.2: the function gets a copy, and what it answers is copied.
func TestTurnMemory(t *testing.T) {
	b := marks.NewBoard()
	publish(t, b, 1, 1, 2, 3)
	told, _ := b.Get()
	var got, gave []int64
	v, e := b.Turn(func(l []int64) []int64 {
		got = l
		spoil(l)
		wantBoard(t, "what it got is spoilt", b, 1, 1, 2, 3)
		gave = append(make([]int64, 0, 9), 4, 5)
		return gave
	})
	wantVersion(t, "Turn", v, e, 2)
	spoil(got)
	if !slices.Equal(gave, []int64{4, 5}) || !slices.Equal(told, rising(1, 3)) {
		t.Error(gave, told)
	}
	spoil(gave)
	wantBoard(t, "what it gave is spoilt", b, 2, 4, 5)

	v, e = b.Turn(func(l []int64) []int64 {
		got = l
		return l
	})
	wantVersion(t, "as it is", v, e, 3)
	spoil(got)
	wantBoard(t, "it gave what it got", b, 3, 4, 5)

	mine := []int64{7, 8, 9}
	v, e = b.Turn(func(l []int64) []int64 { return mine[:2] })
	wantVersion(t, "a piece", v, e, 4)
	if !slices.Equal(mine, rising(7, 9)) {
		t.Error("changed", mine)
	}
	got, _ = b.Get()
	spoil(got)
	if !slices.Equal(mine, rising(7, 9)) {
		t.Error("shared", mine)
	}
}

// P14.2: if another list was published meanwhile, the function is asked anew, with the newer one, even where it is the same.
func TestTurnAnew(t *testing.T) {
	for _, between := range [][]int64{{5, 6}, {1}, {}} {
		for times := range 4 {
			b := marks.NewBoard()
			publish(t, b, 1, 1)
			var asked [][]int64
			v, e := b.Turn(func(l []int64) []int64 {
				asked = append(asked, slices.Clone(l))
				if len(asked) <= times {
					publish(t, b, int64(1+len(asked)), between...)
				}
				spoil(l)
				return []int64{int64(len(asked))}
			})
			wantVersion(t, "Turn", v, e, int64(times+2))
			want := [][]int64{{1}}
			for range times {
				want = append(want, between)
			}
			if !sameLists(asked, want) {
				t.Errorf("asked with %v, want %v", asked, want)
			}
			wantBoard(t, "turned", b, int64(times+2), int64(times+1))
		}
	}
}

// P14.2: more than one list in between is one reason to be asked anew; so is a Turn, and one that is refused is none.
func TestTurnWithin(t *testing.T) {
	b := marks.NewBoard()
	asked := 0
	v, e := b.Turn(func(l []int64) []int64 {
		if asked++; asked == 1 {
			publish(t, b, 1, 10)
			publish(t, b, 2, 20)
			v, e := b.Turn(func(l []int64) []int64 { return append(l, 30) })
			wantVersion(t, "within", v, e, 3)
		}
		v, e := b.Turn(nil)
		wantRefused(t, "within", v, e)
		return append(l, 40)
	})
	wantVersion(t, "Turn", v, e, 4)
	wantBoard(t, "turned", b, 4, 20, 30, 40)
	if asked != 2 {
		t.Errorf("asked %d times", asked)
	}
}

// P14.2, and that nobody is waited for: while a function is asked, others look and publish.
func TestTurnHoldsNobody(t *testing.T) {
	b := marks.NewBoard()
	publish(t, b, 1, 1)
	asked := 0
	v, e := b.Turn(func(l []int64) []int64 {
		asked++
		done := make(chan bool)
		go func() {
			defer close(done)
			if l, v := b.Get(); v != int64(asked) || len(l) != 1 {
				t.Errorf("meanwhile: %v, %d", l, v)
			}
			if asked == 1 {
				if v, e := b.Publish(2); v != 2 || e != api.OK {
					t.Errorf("meanwhile: %d %v", v, e)
				}
			}
		}()
		<-done
		return append(l, 3)
	})
	wantVersion(t, "Turn", v, e, 3)
	wantBoard(t, "turned", b, 3, 2, 3)
}

// P14.2: drawn calls, held against a plain list and a number.
func TestBoardDrawn(t *testing.T) {
	r := rand.New(rand.NewSource(14))
	for range 200 {
		b := marks.NewBoard()
		var l []int64
		for version := range int64(30) {
			wantBoard(t, "drawn", b, version, l...)
			x := drawn(r, r.Intn(6), 100)
			if r.Intn(2) == 0 {
				publish(t, b, version+1, x...)
				l = x
				continue
			}
			v, e := b.Turn(func(now []int64) []int64 { return append(now, x...) })
			wantVersion(t, "drawn", v, e, version+1)
			l = append(l, x...)
		}
		if t.Failed() {
			t.FailNow()
		}
	}
}
