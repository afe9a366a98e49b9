package model_test

import (
	"math/rand"
	"slices"
	"testing"

	"millrace/api"
	"millrace/core"
	"millrace/disk"
	"millrace/model"
)

// pick takes one of a list.
func pick[T any](r *rand.Rand, l ...T) T { return l[r.Intn(len(l))] }

// drawnCall is a call at a model, mostly one that is not refused.
func drawnCall(r *rand.Rand, p plain) api.Call {
	part := pick(r, r.Intn(len(p)), r.Intn(len(p)), r.Intn(len(p)), -1, len(p), pick(r, far()...))
	end := 0
	if part >= 0 && part < len(p) {
		end = len(p[part])
	}
	switch r.Intn(12) {
	case 0:
		return api.Call{Kind: api.CallKind(pick(r, far()...)), Part: part, Records: some(r.Intn(2), 1)}
	case 1:
		return produce(part, pick(r, nil, some(257, 1), ofSize(65537), []api.Record{{Time: -1}})...)
	case 2, 3, 4, 5, 6:
		return produce(part, some(1+r.Intn(4), r.Intn(1000))...)
	case 7:
		return fetch(part, int64(pick(r, far()...)), pick(r, far()...))
	default:
		return fetch(part, int64(r.Intn(end+3)-1), r.Intn(end+3))
	}
}

// drawnReply is like one that a call was answered.
func drawnReply(r *rand.Rand, would api.Reply) api.Reply {
	switch r.Intn(6) {
	case 0:
		would.Offset += int64(r.Intn(3) - 1)
	case 1:
		would.Records = append(slices.Clone(would.Records), some(1, 5)...)
	case 2:
		would.Records = would.Records[:len(would.Records)-min(len(would.Records), 1)]
	case 3:
		return api.Reply{Err: pick(r, errnos()...)}
	case 4:
		would.Err = pick(r, errnos()...)
	}
	return would
}

// P17.1, P17.2: drawn calls, and all else that can be asked between them, are answered as the chapter's words say.
func TestDrawn(t *testing.T) {
	for seed := range int64(300) {
		r := rand.New(rand.NewSource(seed))
		n := 1 + r.Intn(4)
		m, p := empty(t, n), make(plain, n)
		old, was := m.Copy(), slices.Clone(p)
		for range 60 {
			c := drawnCall(r, p)
			would, next := p.try(c)
			for range 3 {
				reply := drawnReply(r, would)
				wantFits(t, "drawn", m, c, reply, p.fits(c, reply))
			}
			wantDone(t, "drawn", m, c, would)
			p = next
			wantHolds(t, "drawn", m, p...)
			if r.Intn(8) == 0 {
				part, end := r.Intn(n+2)-1, r.Intn(12)-1
				e, next := p.cut(part, end)
				wantCut(t, "drawn", m, part, end, e)
				p = next
				wantHolds(t, "drawn, cut", m, p...)
			}
			if m.Same(old) != p.same(was) || old.Same(m) != p.same(was) {
				t.Errorf("seed %d: Same: %v", seed, m.Same(old))
			}
			wantHolds(t, "an old copy", old, was...)
			if r.Intn(5) == 0 {
				old, was = m.Copy(), slices.Clone(p)
			}
		}
	}
}

// P17.3: a Fetch changes nothing; a Produce that is answered OK puts just its records behind all others, and what stood, stands; what is refused has no effect.
func TestEffects(t *testing.T) {
	r := rand.New(rand.NewSource(173))
	p := make(plain, 3)
	m := empty(t, 3)
	grown := 0
	for range 3000 {
		c := drawnCall(r, p)
		was := listsOf(m)
		reply := m.Do(c)
		if c.Kind == api.CallProduce && reply.Err == api.OK {
			if reply.Offset != int64(len(was[c.Part])) || len(reply.Records) > 0 {
				t.Fatalf("Produce: %v", short(reply))
			}
			was[c.Part] = append(was[c.Part], c.Records...)
			grown++
		}
		wantHolds(t, "behind a call", m, was...)
		p = was
		if len(p[0])+len(p[1])+len(p[2]) > 60 {
			k := r.Intn(3)
			wantCut(t, "cut", m, k, 0, api.OK)
			p[k] = nil
		}
	}
	if grown < 500 {
		t.Error(grown)
	}
}

// P17.3: a reply of Do fits where it was done; behind a Produce, a Fetch from its Offset on tells its records.
func TestReplyFits(t *testing.T) {
	for seed := range int64(200) {
		r := rand.New(rand.NewSource(seed))
		m := empty(t, 2)
		for range 30 {
			c := drawnCall(r, listsOf(m))
			there := m.Copy()
			reply := m.Do(c)
			wantFits(t, "where it was done", there, c, reply, true)
			if c.Kind != api.CallProduce || reply.Err != api.OK {
				wantFits(t, "without effect", m, c, reply, true)
				continue
			}
			wantFits(t, "behind itself", m, c, reply, false)
			end := reply.Offset + int64(len(c.Records))
			wantDone(t, "fetch", m, fetch(c.Part, reply.Offset, len(c.Records)), api.Reply{Offset: end, Records: c.Records})
			wantDone(t, "fetch all", m, fetch(c.Part, reply.Offset, 1000), api.Reply{Offset: end, Records: c.Records})
		}
	}
}

// P17.3: Cut takes back what a Produce put there.
func TestCutBack(t *testing.T) {
	r := rand.New(rand.NewSource(3))
	m := empty(t, 2)
	for range 300 {
		c := produce(r.Intn(2), some(1+r.Intn(3), r.Intn(9))...)
		was := m.Copy()
		reply := m.Do(c)
		if m.Same(was) {
			t.Fatal("Produce changed nothing")
		}
		if r.Intn(2) == 0 {
			wantCut(t, "back", m, c.Part, int(reply.Offset), api.OK)
			if !m.Same(was) {
				t.Fatal("not taken back")
			}
		}
	}
}

// P17.1, P17.2: all short scripts over few calls are answered as the chapter's words say.
func TestAllShortScripts(t *testing.T) {
	calls := []api.Call{produce(0, some(1, 1)...), produce(0, some(2, 2)...), produce(1, one()), fetch(0, 1, 1), fetch(0, 0, 9), fetch(1, 0, 9), produce(2, one()), {}}
	var from func(m *model.Model, p plain, depth int)
	from = func(m *model.Model, p plain, depth int) {
		wantHolds(t, "short", m, p...)
		if depth == 0 {
			return
		}
		for _, c := range calls {
			would, next := p.try(c)
			o := m.Copy()
			wantDone(t, "short", o, c, would)
			wantFits(t, "short", m, c, would, true)
			from(o, next, depth-1)
		}
	}
	from(empty(t, 2), make(plain, 2), 4)
}

// P17.2, P17.3: a core with one client answers what fits a model that does the same calls, while nothing fails.
func TestAsCore(t *testing.T) {
	for seed := range int64(30) {
		r := rand.New(rand.NewSource(seed))
		d, e := disk.New()
		oks(t, e)
		x, e := core.Open(d, api.CoreConfig{Parts: 2, Clients: 1, Queue: 1, Take: 1, Log: api.LogConfig{Roll: 200, Step: 64}})
		oks(t, e)
		m := empty(t, 2)
		for range 40 {
			c := drawnCall(r, listsOf(m))
			reply, returned, e := x.Call(0, c)
			if e != api.OK {
				continue
			}
			if !returned {
				reply = stepped(t, x)
			}
			wantFits(t, "core", m, c, reply, true)
			wantDone(t, "core", m, c, reply)
		}
		for k := range 2 {
			l, _, e := x.Records(k)
			oks(t, e)
			if got, _ := m.Records(k); !sameRecords(got, l) {
				t.Errorf("partition %d: %d, not %d", k, len(got), len(l))
			}
		}
	}
}

// stepped gives steps to whoever can go on, till the client's call returns.
func stepped(t *testing.T, x *core.Core) api.Reply {
	t.Helper()
	for {
		reply, returned, e := x.Step(slices.Index(x.Can(), true))
		oks(t, e)
		if returned {
			return reply
		}
	}
}
