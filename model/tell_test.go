package model_test

import (
	"math"
	"testing"

	"millrace/api"
	"millrace/model"
)

// P17.2: Parts, Records and All tell of each partition.
func TestTell(t *testing.T) {
	for n := range 16 {
		var lists [][]api.Record
		for k := range n + 1 {
			lists = append(lists, some(k*k%7, k))
		}
		wantHolds(t, "each", holding(t, lists...), lists...)
	}
}

// P17.2: a partition that is not there is ErrPart, and no list.
func TestRecordsOfNone(t *testing.T) {
	m := holding(t, some(3, 1), some(1, 2))
	for _, k := range far() {
		if k >= 0 && k < 2 {
			continue
		}
		if l, e := m.Records(k); l != nil || e != api.ErrPart {
			t.Errorf("Records(%d): %v %v", k, l, e)
		}
	}
}

// P17.2: All tells the model as it is when All is called, whatever comes meanwhile.
func TestAllAsItWas(t *testing.T) {
	m := holding(t, some(3, 1), some(2, 2))
	all := m.All()
	wantDone(t, "produce", m, produce(0, one()), api.Reply{Offset: 3})
	wantCut(t, "cut", m, 1, 0, api.OK)
	wantDone(t, "produce", m, produce(1, some(2, 9)...), api.Reply{})
	for range 2 {
		n := 0
		for k, l := range all {
			if !sameRecords(l, [][]api.Record{some(3, 1), some(2, 2)}[k]) {
				t.Errorf("partition %d: %v", k, l)
			}
			wantCut(t, "cut meanwhile", m, 0, 0, api.OK)
			wantDone(t, "produce meanwhile", m, produce(0, some(4, 8)...), api.Reply{})
			n++
		}
		if n != 2 {
			t.Error(n)
		}
	}
	wantHolds(t, "behind", m, some(4, 8), some(2, 9))
}

// P17.2: All may be left at any time, and gone through as often as one likes, within itself, too.
func TestAllLeft(t *testing.T) {
	lists := [][]api.Record{some(3, 1), nil, some(2, 2), some(1, 3)}
	all := holding(t, lists...).All()
	for stop := range lists {
		n := 0
		for k := range all {
			if n++; k == stop {
				break
			}
		}
		if n != stop+1 {
			t.Errorf("left at %d: %d", stop, n)
		}
	}
	pairs := 0
	for i, a := range all {
		for k, b := range all {
			if sameRecords(a, b) != (i == k) || !sameRecords(b, lists[k]) {
				t.Errorf("%d in %d", k, i)
			}
			pairs++
		}
	}
	if pairs != 16 {
		t.Error(pairs)
	}
}

// P17.2: Cut takes 0 to the end; the records from there on are gone, and offsets go on from there.
func TestCut(t *testing.T) {
	for end := range 5 {
		m := holding(t, some(2, 5), some(4, 6))
		for _, n := range far() {
			if n < 0 || n > 4 {
				wantCut(t, "no place", m, 1, n, api.ErrRange)
			}
			if n < 0 || n > 1 {
				wantCut(t, "no partition", m, n, 0, api.ErrPart)
				wantCut(t, "no partition, no place", m, n, -1, api.ErrPart)
			}
		}
		wantHolds(t, "refused", m, some(2, 5), some(4, 6))
		wantCut(t, "cut", m, 1, end, api.OK)
		wantHolds(t, "cut", m, some(2, 5), some(4, 6)[:end])
		wantCut(t, "again", m, 1, end, api.OK)
		wantCut(t, "one past", m, 1, end+1, api.ErrRange)
		wantDone(t, "fetch", m, fetch(1, 0, 9), api.Reply{Offset: int64(end), Records: some(4, 6)[:end]})
		wantRefused(t, "fetch above", m, fetch(1, int64(end)+1, 9), api.ErrRange)
		wantDone(t, "produce", m, produce(1, some(3, 7)...), api.Reply{Offset: int64(end)})
		wantHolds(t, "produced", m, some(2, 5), append(some(4, 6)[:end], some(3, 7)...))
	}
}

// P17.2: a copy is the same, and both go on apart.
func TestCopy(t *testing.T) {
	for cut := range 4 {
		m := holding(t, some(3, 1), nil)
		o := m.Copy()
		wantHolds(t, "copy", o, some(3, 1), nil)
		wantCut(t, "cut", m, 0, cut, api.OK)
		wantHolds(t, "the copy, cut", o, some(3, 1), nil)
		wantDone(t, "produce", m, produce(0, some(2, 8)...), api.Reply{Offset: int64(cut)})
		wantDone(t, "produce to the copy", o, produce(0, some(2, 9)...), api.Reply{Offset: 3})
		wantDone(t, "produce to the other", o, produce(1, one()), api.Reply{})
		wantHolds(t, "one", m, append(some(3, 1)[:cut], some(2, 8)...), nil)
		wantHolds(t, "the copy", o, append(some(3, 1), some(2, 9)...), []api.Record{one()})
		wantCut(t, "cut the copy", o, 0, 0, api.OK)
		wantHolds(t, "one", m, append(some(3, 1)[:cut], some(2, 8)...), nil)
		p := o.Copy().Copy()
		wantHolds(t, "copy of a copy", p, nil, []api.Record{one()})
	}
}

// P17.2: Same asks for as many partitions, and in each for the same records.
func TestSame(t *testing.T) {
	key, value := some(3, 1), some(3, 1)
	key[1].Key, value[2].Value = []byte{77}, []byte{77}
	models := []*model.Model{
		empty(t, 1),
		empty(t, 2),
		empty(t, 16),
		holding(t, some(3, 1)),
		holding(t, some(3, 1), nil),
		holding(t, nil, some(3, 1)),
		holding(t, some(3, 1), some(3, 1)),
		holding(t, some(2, 1)),
		holding(t, some(3, 2)),
		holding(t, key),
		holding(t, value),
		holding(t, []api.Record{{Time: 4, Key: []byte("ab")}}),
		holding(t, []api.Record{{Time: 4, Key: []byte("a"), Value: []byte("b")}}),
		holding(t, []api.Record{{Time: 4, Value: []byte("ab")}}),
	}
	for i, a := range models {
		for k, b := range models {
			if a.Same(b) != (i == k) {
				t.Errorf("%d and %d: %v", i, k, a.Same(b))
			}
		}
		if b := a.Copy(); !a.Same(b) || !b.Same(a) {
			t.Errorf("%d and its copy", i)
		}
	}
	one, other := holding(t, []api.Record{{Key: nil, Value: []byte{}}}), holding(t, []api.Record{{Key: []byte{}}})
	if !one.Same(other) {
		t.Error("nil and empty")
	}
}

// P17.2: what was cut off does not matter to Same.
func TestSameBehindCut(t *testing.T) {
	a, b := holding(t, some(3, 1)), holding(t, some(2, 1))
	wantCut(t, "cut", a, 0, 2, api.OK)
	if !a.Same(b) || !b.Same(a) {
		t.Error("cut")
	}
}

// P17.2: nil models and zero ones are the same, and unlike all others; they hold nothing, and have no copies.
func TestNone(t *testing.T) {
	for name, m := range nones() {
		for other, o := range nones() {
			if !m.Same(o) {
				t.Errorf("%s and %s", name, other)
			}
		}
		for n := range 16 {
			if o := empty(t, n+1); m.Same(o) || o.Same(m) {
				t.Errorf("%s and %d partitions", name, n+1)
			}
		}
		if m.Copy() != nil {
			t.Errorf("%s: a copy", name)
		}
		for _, k := range []int{math.MinInt, -1, 0, 1, math.MaxInt} {
			if l, e := m.Records(k); l != nil || e != api.ErrNil {
				t.Errorf("%s: Records(%d): %v %v", name, k, l, e)
			}
			wantCut(t, name, m, k, 0, api.ErrNil)
			wantCut(t, name, m, 0, k, api.ErrNil)
		}
		if m.All() == nil {
			t.Fatalf("%s: no iterator", name)
		}
		wantHolds(t, name, m)
	}
}
