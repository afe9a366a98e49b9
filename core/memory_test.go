package core_test

import (
	"bytes"
	"testing"

	"millrace/api"
)

// roomy is a list with spare room behind its records, and behind each Key and Value.
func roomy(n int) []api.Record {
	l := make([]api.Record, n, n+3)
	for i := range l[:cap(l)] {
		l[:cap(l)][i] = api.Record{Time: int64(i), Key: append(make([]byte, 0, 9), 'k', byte(i)), Value: append(make([]byte, 0, 9), 'v', byte(i))}
	}
	return l
}

// spoil changes all that a list holds, its spare room included.
func spoil(l []api.Record) {
	l = l[:cap(l)]
	for i, r := range l {
		for _, b := range [][]byte{r.Key[:cap(r.Key)], r.Value[:cap(r.Value)]} {
			for j := range b {
				b[j] ^= 0xff
			}
		}
		l[i] = api.Record{Time: l[i].Time + 1000, Value: []byte("spoilt")}
	}
}

// wholly tells whether two lists are the same, their spare room included.
func wholly(a, b []api.Record) bool {
	return cap(a) == cap(b) && sameRecords(room(a), room(b))
}

// room is a list with all spare room of it and of its bytes.
func room(l []api.Record) []api.Record {
	var out []api.Record
	for _, r := range l[:cap(l)] {
		out = append(out, api.Record{Time: r.Time, Key: bytes.Clone(r.Key[:cap(r.Key)]), Value: bytes.Clone(r.Value[:cap(r.Value)])})
	}
	return out
}

// P16.2, P16.4: what is handed in is not changed, spare room included, wherever its call is.
func TestNotChanged(t *testing.T) {
	c := opened(t, fresh(t), usual)
	l := roomy(3)
	wantBegun(t, "first", c, 0, produce(0, l...))
	wantBegun(t, "second", c, 1, produce(0, l...))
	for range 5 {
		wantSteps(t, "flush", c, 2, 1)
		if !wholly(l, roomy(3)) {
			t.Fatal("changed")
		}
	}
	spoilAnswers(t, c.Step)
	if !wholly(l, roomy(3)) {
		t.Error("changed")
	}
}

// spoilAnswers spoils what two clients' steps answer.
func spoilAnswers(t *testing.T, step func(int) (api.Reply, bool, api.Errno)) {
	t.Helper()
	for client := range 2 {
		r, _, e := step(client)
		oks(t, e)
		spoil(r.Records)
	}
}

// P16.2: what is handed in is not kept: whoever changes it behind the call changes nothing, whatever the call waits for.
func TestNotKept(t *testing.T) {
	for steps := range 6 {
		c := opened(t, fresh(t), usual)
		first, second := roomy(3), roomy(2)
		wantBegun(t, "first", c, 0, produce(0, first...))
		wantBegun(t, "second", c, 1, produce(0, second...))
		wantSteps(t, "flush", c, 2, steps)
		spoil(first)
		spoil(second)
		wantSteps(t, "flush", c, 2, 5-steps)
		wantReturn(t, "first", c, 0, api.Reply{})
		wantReturn(t, "second", c, 1, api.Reply{Offset: 3})
		wantRecords(t, "behind", c, 0, 0, append(roomy(3), roomy(2)...)...)
	}
	c := opened(t, fresh(t), usual)
	wantProduced(t, "produce", c, 0, produce(0, roomy(3)...), 0)
	x := fetch(0, 1, 9)
	x.Records = roomy(2)[:0]
	wantBegun(t, "fetch", c, 0, x)
	spoil(x.Records)
	wantReturn(t, "fetch", c, 0, api.Reply{Offset: 3, Records: roomy(3)[1:]})
}

// P16.3, P16.5: each answer is new memory: whoever changes one changes neither another one nor what stands.
func TestAnswersAreNew(t *testing.T) {
	c := opened(t, fresh(t), usual)
	wantProduced(t, "produce", c, 0, produce(0, roomy(4)...), 0)
	want := roomy(4)
	first, _, e := c.Records(0)
	oks(t, e)
	second, _, e := c.Records(0)
	oks(t, e)
	spoil(first)
	if !sameRecords(second, want) {
		t.Error("Records share")
	}
	second[0].Key = append(second[0].Key, "behind the key"...)
	second[0].Value = append(second[0].Value, "behind the value"...)
	if !sameRecords(second[1:], want[1:]) {
		t.Error("records share")
	}
	for client := range 2 {
		wantBegun(t, "fetch", c, client, fetch(0, 0, 9))
	}
	one, _, _ := c.Step(0)
	two, _, _ := c.Step(1)
	spoil(one.Records)
	if !sameRecords(two.Records, want) {
		t.Error("replies share")
	}
	two.Records[0].Key = append(two.Records[0].Key, "behind the key"...)
	if !sameRecords(two.Records[1:], want[1:]) {
		t.Error("a reply's records share")
	}
	wantFetched(t, "what stands", c, 0, fetch(0, 0, 9), api.Reply{Offset: 4, Records: want})
	wantRecords(t, "what stands", c, 0, 0, want...)
	can, again := c.Can(), c.Can()
	for i := range can[:cap(can)] {
		can[:cap(can)][i] = true
	}
	for i := range again {
		if again[i] {
			t.Error("Can shares")
		}
	}
	wantCan(t, "Can", c, "...")
}

// P16.3: a reply that is not taken yet is not changed by what comes meanwhile.
func TestRepliesApart(t *testing.T) {
	c := opened(t, fresh(t), usual)
	wantProduced(t, "produce", c, 0, produce(0, roomy(2)...), 0)
	wantBegun(t, "fetch", c, 1, fetch(0, 0, 9))
	l, _, _ := c.Records(0)
	spoil(l)
	wantProduced(t, "produce", c, 0, produce(0, some(2, 9)...), 2)
	wantReturn(t, "fetch", c, 1, api.Reply{Offset: 2, Records: roomy(2)})
}
