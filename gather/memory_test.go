package gather_test

import (
	"bytes"
	"testing"

	"millrace/api"
	"millrace/gather"
)

// roomy is a list with spare room behind its records, and behind each Key and Value.
func roomy(n int) list {
	l := make(list, n, n+3)
	for i := range l[:cap(l)] {
		l[:cap(l)][i] = api.Record{Time: int64(i), Key: append(make([]byte, 0, 9), 'k', byte(i)), Value: append(make([]byte, 0, 9), 'v', byte(i))}
	}
	return l
}

// spoil changes all that a list holds, its spare room included.
func spoil(l list) {
	l = l[:cap(l)]
	for i, r := range l {
		for _, b := range [][]byte{r.Key[:cap(r.Key)], r.Value[:cap(r.Value)]} {
			for j := range b {
				b[j] ^= 0xff
			}
		}
		l[i].Time += 1000
		l[i].Key, l[i].Value = nil, []byte("spoilt")
	}
}

// wholly tells whether two lists are the same, their spare room included.
func wholly(a, b list) bool {
	return cap(a) == cap(b) && same(room(a), room(b))
}

// room is a list with all spare room of it and of its bytes.
func room(l list) list {
	var out list
	for _, r := range l[:cap(l)] {
		out = append(out, api.Record{Time: r.Time, Key: bytes.Clone(r.Key[:cap(r.Key)]), Value: bytes.Clone(r.Value[:cap(r.Value)])})
	}
	return out
}

// P6.1 to P6.4: what is handed in is as it was, spare room included.
func TestNotChanged(t *testing.T) {
	l := []list{roomy(3), roomy(100), roomy(200)}
	lists := append(make([]list, 0, 9), l...)
	gather.Count(9, lists...)
	gather.Plan(9, lists...)
	gather.Together(lists[:2]...)
	gather.Offsets(3, lists...)
	for _, b := range told(t, 9, 3, lists...) {
		spoil(b.Records)
	}
	q := queue(t, 3, 1, produces(lists...)...)
	gather.Look(q, 9)
	calls, records, _ := gather.Take(q, 9)
	spoil(records)
	for _, c := range calls {
		spoil(c.Records)
	}
	for i, n := range []int{3, 100, 200} {
		if !wholly(lists[i], roomy(n)) {
			t.Error(n)
		}
	}
	for i, x := range lists[:cap(lists)] {
		if i >= 3 && x != nil {
			t.Error("behind the lists", i)
		}
	}
}

// P6.1: records put together are new memory, the same list's at two places, too.
func TestTogetherIsNew(t *testing.T) {
	l := roomy(2)
	a, _ := gather.Together(l, l)
	b, _ := gather.Together(l, l)
	spoil(l)
	want := all([]list{roomy(2), roomy(2)})
	if !same(a, want) || !same(b, want) {
		t.Error("shared with what was handed in")
	}
	spoil(a)
	if !same(b, want) {
		t.Error("shared with another answer")
	}
	b[0].Key[0], b[0].Value[0] = 'x', 'x'
	_ = append(b[0].Key, 'x', 'x')
	_ = append(b[1].Value, 'x', 'x')
	if !same(b[1:], want[1:]) {
		t.Error("shared within")
	}
}

// P6.1, P6.2: numbers answered are new memory.
func TestNumbersAreNew(t *testing.T) {
	l := times(3, of(100, 1))
	p, _ := gather.Plan(1, l...)
	o, _, _ := gather.Offsets(1, l...)
	clear(p[:cap(p)])
	clear(o[:cap(o)])
	if p, _ := gather.Plan(1, l...); len(p) != 3 || p[0] != 1 {
		t.Error(p)
	}
	if o, _, _ := gather.Offsets(1, l...); len(o) != 3 || o[2] != 201 {
		t.Error(o)
	}
}

// P6.3: calls and records share nothing with what was put in, with one another, or with what is left in the queue.
func TestTakeIsNew(t *testing.T) {
	l := roomy(2)
	fill := func() []api.Call { return produces(l, l, l) }
	q := queue(t, 4, 3, fill()...)
	calls, records, _ := gather.Take(q, 2)
	want := roomy(2)
	spoil(records)
	if !same(calls[0].Records, want) || !same(calls[1].Records, want) {
		t.Error("records shared with calls")
	}
	spoil(calls[0].Records)
	if !same(calls[1].Records, want) {
		t.Error("calls shared with one another")
	}
	spoil(calls[1].Records)
	clear(calls[:cap(calls)])
	if left := q.List(); len(left) != 1 || left[0].Part != 3 || !same(left[0].Records, want) || !wholly(l, want) {
		t.Error("shared with the queue")
	}
	q = queue(t, 4, 2, fill()...)
	calls, records, _ = gather.Take(q, 2)
	spoil(l)
	if !same(records, all([]list{want, want})) || !same(calls[0].Records, want) || !same(calls[1].Records, want) {
		t.Error("shared with what was put in")
	}
}

// P6.4: the batches are of the lists as they were when Batches was called.
func TestBatchesStay(t *testing.T) {
	l := []list{roomy(2), roomy(3), roomy(4)}
	want := batched(2, 6, []list{roomy(2), roomy(3), roomy(4)})
	over, _ := gather.Batches(2, 6, l...)
	spoil(l[0])
	l[1] = nil
	var got []batch
	for n, b := range over {
		spoil(l[2])
		got = append(got, batch{n, b})
	}
	if !sameBatches(got, want) {
		t.Error("changed with the lists")
	}
}

// P6.4: each batch is new memory each time that it is told.
func TestBatchesAreNew(t *testing.T) {
	l := roomy(2)
	over, _ := gather.Batches(2, 6, l, l, l)
	want := batched(2, 6, times(3, roomy(2)))
	var first []batch
	for n, b := range over {
		first = append(first, batch{n, b})
	}
	spoil(first[0].Records)
	if !sameBatches(first[1:], want[1:]) {
		t.Error("shared with one another")
	}
	spoil(first[1].Records)
	var again []batch
	for n, b := range over {
		again = append(again, batch{n, b})
	}
	if !sameBatches(again, want) {
		t.Error("shared with those told ahead")
	}
}
