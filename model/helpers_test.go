package model_test

import (
	"bytes"
	"math"
	"slices"
	"testing"

	"millrace/api"
	"millrace/model"
)

// one is the chapter's record.
func one() api.Record { return api.Record{Time: 1, Key: []byte("a")} }

// some are records each unlike the others, and unlike those of another first one.
func some(n, first int) []api.Record {
	var l []api.Record
	for i := range n {
		l = append(l, api.Record{Time: int64(first), Key: []byte{byte(i)}, Value: []byte{byte(i >> 8)}})
	}
	return l
}

// ofSize are records whose batch has that many bytes.
func ofSize(n int) []api.Record {
	const most = 12 + api.MaxKey + api.MaxValue
	var l []api.Record
	n -= 20
	for n > most {
		l = append(l, sized(min(most, n-12)))
		n -= min(most, n-12)
	}
	return append(l, sized(n))
}

// sized is a record of that many bytes.
func sized(n int) api.Record {
	key := min(n-12, api.MaxKey)
	return api.Record{Time: 3, Key: bytes.Repeat([]byte{'k'}, key), Value: bytes.Repeat([]byte{'v'}, n-12-key)}
}

func produce(part int, l ...api.Record) api.Call {
	return api.Call{Kind: api.CallProduce, Part: part, Records: l}
}

func fetch(part int, from int64, most int) api.Call {
	return api.Call{Kind: api.CallFetch, Part: part, Offset: from, Most: most}
}

// far are numbers at which a call must end, too.
func far() []int {
	return []int{math.MinInt, math.MinInt + 1, math.MinInt32, -65536, -3, -2, -1, 0, 1, 2, 3, 4, 5, 15, 16, 17, 255, 256, 257, 65536, math.MaxInt32, math.MaxInt - 1, math.MaxInt}
}

// oks fails if one is an error.
func oks(t *testing.T, l ...api.Errno) {
	t.Helper()
	for i, e := range l {
		if e != api.OK {
			t.Fatalf("call %d: %v", i, e)
		}
	}
}

// empty is a model of so many partitions, without records.
func empty(t *testing.T, parts int) *model.Model {
	t.Helper()
	m, e := model.New(parts)
	if m == nil || e != api.OK {
		t.Fatalf("New(%d): %v", parts, e)
	}
	return m
}

// holding is a model of these partitions.
func holding(t *testing.T, lists ...[]api.Record) *model.Model {
	t.Helper()
	m := empty(t, len(lists))
	for k, l := range lists {
		for i, r := range l {
			wantDone(t, "holding", m, produce(k, r), api.Reply{Offset: int64(i)})
		}
	}
	return m
}

// wantNew asks New for a model of so many partitions without records, or for an error and none.
func wantNew(t *testing.T, parts int, want api.Errno) {
	t.Helper()
	m, e := model.New(parts)
	if e != want || (m != nil) != (e == api.OK) {
		t.Errorf("New(%d): %v %v, want %v", parts, m, e, want)
	}
	if e == api.OK {
		wantHolds(t, "new", m, make([][]api.Record, parts)...)
	}
}

// wantTried asks Try for a reply, and that nothing changes.
func wantTried(t *testing.T, what string, m *model.Model, c api.Call, want api.Reply) {
	t.Helper()
	was := listsOf(m)
	if r := m.Try(c); !sameReply(r, want) {
		t.Errorf("%s: Try: %v, want %v", what, short(r), short(want))
	}
	wantHolds(t, what+": behind Try", m, was...)
}

// wantDone asks Try and then Do for a reply.
func wantDone(t *testing.T, what string, m *model.Model, c api.Call, want api.Reply) {
	t.Helper()
	wantTried(t, what, m, c, want)
	if r := m.Do(c); !sameReply(r, want) {
		t.Errorf("%s: Do: %v, want %v", what, short(r), short(want))
	}
}

// wantRefused asks Try and Do for that Err, and that nothing changes.
func wantRefused(t *testing.T, what string, m *model.Model, c api.Call, why api.Errno) {
	t.Helper()
	was := listsOf(m)
	wantDone(t, what, m, c, api.Reply{Err: why})
	wantHolds(t, what+": refused", m, was...)
}

// wantFits asks Fits whether a reply fits, and that nothing changes.
func wantFits(t *testing.T, what string, m *model.Model, c api.Call, r api.Reply, want bool) {
	t.Helper()
	was := listsOf(m)
	if got := m.Fits(c, r); got != want {
		t.Errorf("%s: Fits(%v): %v, want %v", what, short(r), got, want)
	}
	wantHolds(t, what+": behind Fits", m, was...)
}

// wantCut asks Cut for what it answers.
func wantCut(t *testing.T, what string, m *model.Model, part, end int, want api.Errno) {
	t.Helper()
	if e := m.Cut(part, end); e != want {
		t.Errorf("%s: Cut(%d, %d): %v, want %v", what, part, end, e, want)
	}
}

// wantHolds asks all calls that tell of a model for these partitions.
func wantHolds(t *testing.T, what string, m *model.Model, want ...[]api.Record) {
	t.Helper()
	if n := m.Parts(); n != len(want) {
		t.Errorf("%s: Parts: %d, want %d", what, n, len(want))
	}
	for k, l := range want {
		if got, e := m.Records(k); !sameRecords(got, l) || e != api.OK {
			t.Errorf("%s: Records(%d): %d, %v, want %d", what, k, len(got), e, len(l))
		}
	}
	next := 0
	for k, l := range m.All() {
		if k != next || k >= len(want) || !sameRecords(l, want[k]) {
			t.Fatalf("%s: All: %d at %d, %d records", what, k, next, len(l))
		}
		next++
	}
	if next != len(want) {
		t.Errorf("%s: All: %d partitions, want %d", what, next, len(want))
	}
}

// listsOf is what a model holds.
func listsOf(m *model.Model) [][]api.Record {
	var lists [][]api.Record
	for k := range m.Parts() {
		l, _ := m.Records(k)
		lists = append(lists, l)
	}
	return lists
}

func sameRecord(a, b api.Record) bool {
	return a.Time == b.Time && bytes.Equal(a.Key, b.Key) && bytes.Equal(a.Value, b.Value)
}

func sameRecords(a, b []api.Record) bool { return slices.EqualFunc(a, b, sameRecord) }

func sameReply(a, b api.Reply) bool {
	return a.Err == b.Err && a.Offset == b.Offset && sameRecords(a.Records, b.Records)
}

// short is what of a reply may stand in a test's report.
func short(r api.Reply) api.Reply {
	r.Records = r.Records[:min(len(r.Records), 5)]
	return r
}

// nones are a nil model, a zero one, one that New refused, and copies of such.
func nones() map[string]*model.Model {
	var none *model.Model
	refused, _ := model.New(0)
	return map[string]*model.Model{"nil": none, "zero": {}, "refused": refused, "copy of nil": none.Copy(), "copy of zero": new(model.Model).Copy()}
}
