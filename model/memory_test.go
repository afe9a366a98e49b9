package model_test

import (
	"bytes"
	"testing"

	"millrace/api"
	"millrace/model"
)

// roomy is a list with spare room behind its records, and behind each Key and Value.
func roomy(n int) []api.Record {
	l := make([]api.Record, n, n+3)
	for i := range l[:cap(l)] {
		l[:cap(l)][i] = api.Record{Time: int64(i), Key: append(make([]byte, 0, 9), 'k', byte(i)), Value: append(make([]byte, 0, 9), 'v', byte(i))}
	}
	return l
}

// spoil changes all that a list holds, its spare room included.
func spoil(l []api.Record) {
	l = l[:cap(l)]
	for i, r := range l {
		for _, b := range [][]byte{r.Key[:cap(r.Key)], r.Value[:cap(r.Value)]} {
			for j := range b {
				b[j] ^= 0xff
			}
		}
		l[i] = api.Record{Time: l[i].Time + 1000, Value: []byte("spoilt")}
	}
}

// wholly tells whether two lists are the same, their spare room included.
func wholly(a, b []api.Record) bool {
	return cap(a) == cap(b) && sameRecords(room(a), room(b))
}

// room is a list with all spare room of it and of its bytes.
func room(l []api.Record) []api.Record {
	var out []api.Record
	for _, r := range l[:cap(l)] {
		out = append(out, api.Record{Time: r.Time, Key: bytes.Clone(r.Key[:cap(r.Key)]), Value: bytes.Clone(r.Value[:cap(r.Value)])})
	}
	return out
}

// P17.1, P17.2: what is handed in is neither changed, spare room included, nor kept.
func TestHandedIn(t *testing.T) {
	m := empty(t, 1)
	for i := range 3 {
		l := roomy(3)
		c := produce(0, l...)
		m.Try(c)
		m.Fits(c, api.Reply{Offset: int64(3 * i), Records: l})
		wantDone(t, "produce", m, c, api.Reply{Offset: int64(3 * i)})
		o := m.Copy()
		o.Do(c)
		wantCut(t, "cut", m, 0, 3*i+3, api.OK)
		if !wholly(l, roomy(3)) {
			t.Fatal("changed")
		}
		spoil(l)
		wantHolds(t, "the copy", o, append(listsOf(m)[0], roomy(3)...))
	}
	want := append(append(roomy(3), roomy(3)...), roomy(3)...)
	wantHolds(t, "spoilt", m, want)
	l := roomy(9)
	c := fetch(0, 0, 9)
	c.Records = l
	m.Fits(c, api.Reply{Offset: 9, Records: l})
	m.Do(c)
	if !wholly(l, roomy(9)) {
		t.Error("changed")
	}
	wantHolds(t, "fetched", m, want)
}

// tellers are all ways to ask for the records of partition 0.
func tellers(all func(func(int, []api.Record) bool)) map[string]func(*model.Model) []api.Record {
	return map[string]func(*model.Model) []api.Record{
		"Do":  func(m *model.Model) []api.Record { return m.Do(fetch(0, 0, 9)).Records },
		"Try": func(m *model.Model) []api.Record { return m.Try(fetch(0, 0, 9)).Records },
		"Records": func(m *model.Model) []api.Record {
			l, _ := m.Records(0)
			return l
		},
		"All": func(m *model.Model) []api.Record {
			for _, l := range all {
				return l
			}
			return nil
		},
		"Copy": func(m *model.Model) []api.Record {
			l, _ := m.Copy().Records(0)
			return l
		},
	}
}

// P17.1, P17.2: each answer is new memory: whoever changes one, its spare room included, changes neither another one nor the model.
func TestAnswersAreNew(t *testing.T) {
	m := empty(t, 2)
	for k := range 2 {
		wantDone(t, "produce", m, produce(k, roomy(4)...), api.Reply{})
	}
	copied, all := m.Copy(), m.All()
	for name, tell := range tellers(all) {
		for other, again := range tellers(all) {
			first, second := tell(m), again(m)
			spoil(first)
			if !sameRecords(second, roomy(4)) {
				t.Errorf("%s shares with %s", name, other)
			}
			for i := range second {
				grown := append(second[i].Key, "behind the key"...)
				grown = append(second[i].Value, grown...)
				_ = append(second[:i], api.Record{Key: grown})
				second[i] = roomy(4)[i]
			}
			if !sameRecords(second, roomy(4)) {
				t.Errorf("%s shares within itself", other)
			}
			wantHolds(t, name, m, roomy(4), roomy(4))
			wantHolds(t, name, copied, roomy(4), roomy(4))
		}
	}
}

// P17.1, P17.2: within one answer no two Keys or Values share, spare room included.
func TestAnswersWithin(t *testing.T) {
	m := holding(t, roomy(4))
	for name, tell := range tellers(m.All()) {
		l := tell(m)
		for i := range l {
			for _, b := range [][]byte{l[i].Key, l[i].Value} {
				b = b[:cap(b)]
				for j := range b {
					b[j] = 0xee
				}
			}
			if !sameRecords(l[i+1:], roomy(4)[i+1:]) {
				t.Errorf("%s: record %d shares", name, i)
			}
		}
	}
}

// P17.1: what an answer tells does not change when the model goes on.
func TestAnswersStay(t *testing.T) {
	m := holding(t, roomy(4))
	for name, tell := range tellers(m.All()) {
		o := m.Copy()
		l := tell(o)
		wantCut(t, "cut", o, 0, 1, api.OK)
		wantDone(t, "produce", o, produce(0, some(5, 77)...), api.Reply{Offset: 1})
		if !sameRecords(l, roomy(4)) {
			t.Errorf("%s: changed", name)
		}
	}
}
