package model_test

import (
	"fmt"
	"math"
	"testing"

	"millrace/api"
)

// edges are calls at all the edges of a model of two partitions, the first with 3 records, the other one empty.
func edges() map[string]api.Call {
	return map[string]api.Call{
		"produce":              produce(0, some(2, 9)...),
		"produce to the other": produce(1, one()),
		"produce nowhere":      produce(2, one()),
		"produce none":         produce(0),
		"produce none nowhere": produce(-1),
		"produce too much":     produce(1, ofSize(65537)...),
		"fetch all":            fetch(0, 0, 9),
		"fetch some":           fetch(0, 1, 1),
		"fetch none":           fetch(0, 1, 0),
		"fetch at the end":     fetch(0, 3, 9),
		"fetch above":          fetch(0, 4, 9),
		"fetch below":          fetch(0, -1, 9),
		"fetch nowhere":        fetch(2, 0, 9),
		"fetch below 0":        fetch(0, 0, -1),
		"fetch the empty one":  fetch(1, 0, 9),
		"another kind":         {Kind: 3},
		"no kind":              {Records: some(1, 1)},
	}
}

// errnos are all errors that a reply might tell, and some that it can't.
func errnos() []api.Errno {
	l := []api.Errno{math.MinInt, -1, 99, api.ErrMore, api.ErrNone, api.ErrBusy, math.MaxInt}
	for e := api.OK; e <= api.ErrDead; e++ {
		l = append(l, e)
	}
	return l
}

// P17.2: of each call at each edge just these replies fit: what the call answers; of a Produce ErrFull and ErrDead.
func TestFits(t *testing.T) {
	m := holding(t, some(3, 7), nil)
	p := plain{some(3, 7), nil}
	lists := [][]api.Record{nil, {}, {one()}, some(3, 7), some(3, 7)[1:2], some(3, 8), some(2, 9)}
	fit := 0
	for name, c := range edges() {
		for _, e := range errnos() {
			for _, at := range []int64{math.MinInt64, -1, 0, 1, 2, 3, 4, 5, math.MaxInt64} {
				for _, l := range lists {
					r := api.Reply{Err: e, Offset: at, Records: l}
					want := p.fits(c, r)
					wantFits(t, name, m, c, r, want)
					if want {
						fit++
					}
				}
			}
		}
	}
	// Each call's own, and two more of each of the six Produces; those without records twice, nil and empty.
	if want := 2*(len(edges())-2) + 2 + 6*2*2; fit != want {
		t.Errorf("%d fit, want %d", fit, want)
	}
}

// P17.2: what a call answers fits; a like one does not.
func TestFitsJust(t *testing.T) {
	m := holding(t, some(3, 7), nil)
	all := api.Reply{Offset: 3, Records: some(3, 7)}
	wantFits(t, "all", m, fetch(0, 0, 9), all, true)
	for name, change := range map[string]func(*api.Reply){
		"another Err":       func(r *api.Reply) { r.Err = api.ErrRange },
		"another mark":      func(r *api.Reply) { r.Offset = 2 },
		"fewer records":     func(r *api.Reply) { r.Records = r.Records[:2] },
		"others":            func(r *api.Reply) { r.Records[1].Time++ },
		"another key":       func(r *api.Reply) { r.Records[2].Key = []byte{9} },
		"another value":     func(r *api.Reply) { r.Records[0].Value = nil },
		"another order":     func(r *api.Reply) { r.Records[0], r.Records[1] = r.Records[1], r.Records[0] },
		"more records":      func(r *api.Reply) { r.Records = append(r.Records, one()) },
		"an Err, no others": func(r *api.Reply) { *r = api.Reply{Err: api.ErrRange} },
		"nothing":           func(r *api.Reply) { *r = api.Reply{} },
	} {
		r := api.Reply{Offset: 3, Records: some(3, 7)}
		change(&r)
		wantFits(t, name, m, fetch(0, 0, 9), r, false)
	}
	for _, l := range [][]api.Record{nil, {}} {
		wantFits(t, "none", m, fetch(0, 3, 9), api.Reply{Offset: 3, Records: l}, true)
		wantFits(t, "none", m, produce(0, one()), api.Reply{Offset: 3, Records: l}, true)
		wantFits(t, "none", m, produce(0, one()), api.Reply{Err: api.ErrFull, Records: l}, true)
	}
	empties := some(3, 7)
	for i := range empties {
		empties[i].Value = nil
	}
	n := holding(t, empties)
	for i := range empties {
		empties[i].Value = []byte{}
	}
	wantFits(t, "empty bytes", n, fetch(0, 0, 9), api.Reply{Offset: 3, Records: empties}, true)
}

// P17.2: ErrFull and ErrDead fit any Produce, and no other call; beside them stands nothing.
func TestFitsRefusals(t *testing.T) {
	m := holding(t, some(3, 7), nil)
	for name, c := range edges() {
		for _, e := range []api.Errno{api.ErrFull, api.ErrDead} {
			what := fmt.Sprint(name, ", ", e)
			wantFits(t, what, m, c, api.Reply{Err: e}, c.Kind == api.CallProduce)
			wantFits(t, what, m, c, api.Reply{Err: e, Offset: 3}, false)
			wantFits(t, what, m, c, api.Reply{Err: e, Offset: -1}, false)
			wantFits(t, what, m, c, api.Reply{Err: e, Records: some(1, 1)}, false)
		}
	}
}

// P17.2: ErrArg, ErrPart, ErrLarge and ErrRange fit just where they are answered.
func TestFitsWhereAnswered(t *testing.T) {
	m := holding(t, some(3, 7), nil)
	answered := map[string]api.Errno{
		"produce nowhere": api.ErrPart, "produce none": api.ErrLarge, "produce none nowhere": api.ErrPart, "produce too much": api.ErrLarge,
		"fetch above": api.ErrRange, "fetch below": api.ErrRange, "fetch nowhere": api.ErrPart, "fetch below 0": api.ErrArg,
		"another kind": api.ErrArg, "no kind": api.ErrArg,
	}
	for name, c := range edges() {
		for _, e := range []api.Errno{api.ErrNil, api.ErrArg, api.ErrLong, api.ErrRange, api.ErrDisk, api.ErrPart, api.ErrLarge} {
			wantFits(t, fmt.Sprint(name, ", ", e), m, c, api.Reply{Err: e}, answered[name] == e)
			wantFits(t, fmt.Sprint(name, ", ", e, " at 1"), m, c, api.Reply{Err: e, Offset: 1}, false)
		}
	}
}

// P17.2: at no model no reply fits.
func TestFitsOfNone(t *testing.T) {
	for what, m := range nones() {
		for name, c := range edges() {
			for _, e := range errnos() {
				wantFits(t, what+", "+name, m, c, api.Reply{Err: e}, false)
			}
		}
	}
}
