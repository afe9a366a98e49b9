package ring_test

import (
	"math/rand"
	"runtime"
	"slices"
	"testing"
	"weak"

	"millrace/api"
	"millrace/ring"
)

// pair is a queue and the plain list that it is to be as.
type pair struct {
	r     *ring.Ring[int]
	plain []int
	bound int
	next  int // what is put in next: all things differ
	out   []int
}

// put puts n things in, or none.
func (p *pair) put(t *testing.T, n int) {
	l := from(p.next, n)
	want := api.OK
	if len(p.plain)+n > p.bound {
		want = api.ErrFull
	} else {
		p.plain = append(p.plain, l...)
		p.next += n
	}
	if e := p.r.Put(l...); e != want {
		t.Fatalf("Put of %d to %d of %d: %v", n, len(p.plain), p.bound, e)
	}
}

// gone holds what was taken out to be the first n things.
func (p *pair) gone(t *testing.T, what string, n int, got []int) {
	if !slices.Equal(got, p.plain[:n]) {
		t.Fatalf("%s: got %v, want %v", what, got, p.plain[:n])
	}
	p.plain = p.plain[n:]
	p.out = append(p.out, got...)
}

func (p *pair) take(t *testing.T) {
	x, e := p.r.Take()
	if len(p.plain) == 0 {
		if x != 0 || e != api.ErrRange {
			t.Fatal("Take of none", x, e)
		}
		return
	}
	if e != api.OK {
		t.Fatal("Take", e)
	}
	p.gone(t, "Take", 1, []int{x})
}

func (p *pair) drop(t *testing.T, n int) {
	l, e := p.r.Drop(n)
	want := api.OK
	if n < 0 {
		want = api.ErrArg
	} else if n > len(p.plain) {
		want = api.ErrRange
	}
	if e != want || e != api.OK && len(l) != 0 {
		t.Fatal("Drop", n, l, e)
	}
	if e == api.OK {
		p.gone(t, "Drop", n, l)
	}
}

// step does one thing that is drawn.
func (p *pair) step(t *testing.T, draw *rand.Rand) {
	switch draw.Intn(8) {
	case 0, 1:
		p.put(t, 1)
	case 2:
		p.put(t, draw.Intn(p.bound+2))
	case 3:
		p.put(t, p.bound-len(p.plain))
	case 4:
		p.take(t)
	case 5:
		p.drop(t, draw.Intn(p.bound+3)-1)
	case 6:
		p.r = p.r.Copy()
	case 7:
		if draw.Intn(4) == 0 {
			p.gone(t, "Clear", len(p.plain), p.r.Clear())
		}
	}
}

// P4.4: what comes out, however it is taken, is what was put in, in that order, each once; Len is the one less the other.
func TestOrder(t *testing.T) {
	draw := rand.New(rand.NewSource(4))
	for _, bound := range []int{1, 2, 3, 4, 7, 16, 255, api.MaxQueue} {
		p := &pair{r: fresh[int](t, bound), bound: bound, next: 1}
		for range 3000 {
			p.step(t, draw)
			if n := p.r.Len(); n != p.next-1-len(p.out) || n < 0 || n > bound {
				t.Fatal(bound, n, p.next, len(p.out))
			}
			if draw.Intn(1+bound/8) == 0 {
				wantRing(t, "stands", p.r, bound, p.plain...)
			}
		}
		p.gone(t, "the rest", len(p.plain), p.r.Clear())
		if len(p.out) < 10*bound || !slices.Equal(p.out, from(1, p.next-1)) {
			t.Errorf("bound %d: %d came out, %d were put in", bound, len(p.out), p.next-1)
		}
	}
}

// P4.4: alike things are told each by itself.
func TestAlike(t *testing.T) {
	r := fresh[string](t, 3)
	put(t, r, "a", "a", "b")
	r.Take()
	put(t, r, "a")
	wantRing(t, "alike", r, 3, "a", "b", "a")
}

// big is a thing with memory of its own, which is freed by itself.
type big struct {
	bytes [256]byte
}

// held are how many of the things that were made are kept alive.
func held(l []weak.Pointer[big]) int {
	for range 4 {
		runtime.GC()
	}
	n := 0
	for _, p := range l {
		if p.Value() != nil {
			n++
		}
	}
	return n
}

// fill puts n things in and holds none of them itself.
func fill(t *testing.T, r *ring.Ring[*big], n int) []weak.Pointer[big] {
	var out []weak.Pointer[big]
	for range n {
		b := new(big)
		out = append(out, weak.Make(b))
		put(t, r, b)
	}
	return out
}

// P4.4: what was taken out is not kept, whichever way it was, and from whichever first place on.
func TestNotKept(t *testing.T) {
	ways := map[string]func(r *ring.Ring[*big], n int){
		"Take": func(r *ring.Ring[*big], n int) {
			for range n {
				r.Take()
			}
		},
		"Drop":         func(r *ring.Ring[*big], n int) { r.Drop(n) },
		"Drop one":     func(r *ring.Ring[*big], n int) { r.Drop(1); r.Drop(n - 1) },
		"Drop, copied": func(r *ring.Ring[*big], n int) { r.Copy().Clear(); r.Drop(n) },
	}
	for name, way := range ways {
		for first := range 4 {
			r := fresh[*big](t, 4)
			for range first {
				put(t, r, nil)
				r.Take()
			}
			l := fill(t, r, 4)
			if n := held(l); n != 4 {
				t.Error(name, first, "lost while they are in it:", 4-n)
			}
			way(r, 3)
			if n := held(l); n != 1 || l[3].Value() == nil {
				t.Error(name, first, "held:", n)
			}
			r.Clear()
			if n := held(l); n != 0 {
				t.Error(name, first, "held behind Clear:", n)
			}
			runtime.KeepAlive(r)
		}
	}
}

// P4.4: a copy keeps what is in it, and nothing that had left the one that was copied.
func TestCopyKeeps(t *testing.T) {
	r := fresh[*big](t, 4)
	l := fill(t, r, 4)
	r.Drop(2)
	c := r.Copy()
	r.Clear()
	if n := held(l); n != 2 || l[2].Value() == nil || l[3].Value() == nil {
		t.Error("held by the copy:", n)
	}
	c.Clear()
	if n := held(l); n != 0 {
		t.Error("held:", n)
	}
	runtime.KeepAlive(r)
	runtime.KeepAlive(c)
}

// P4.1, P4.4: a list that is handed in is neither kept nor changed, nor is the room behind it.
func TestHandedIn(t *testing.T) {
	for first := range 3 {
		whole := []int{1, 2, 3, 4, 5}
		l := whole[:3]
		r := turned(t, 3, first, l...)
		r.Take()
		put(t, r, 9)
		r.Clear()
		put(t, r, l...)
		if !slices.Equal(whole, []int{1, 2, 3, 4, 5}) {
			t.Error("changed", whole)
		}
		clear(whole)
		wantRing(t, "kept apart", r, 3, 1, 2, 3)
		if e := r.Put(whole...); e != api.ErrFull || !slices.Equal(whole, make([]int, 5)) {
			t.Error("refused", e, whole)
		}
	}
}

// spoil writes over a list and all the room behind it.
func spoil(l []int) {
	l = l[:cap(l)]
	for i := range l {
		l[i] = -9
	}
}

// P4.2, P4.4: each answer is memory of its own, the room behind it too.
func TestAnswersApart(t *testing.T) {
	for first := range 4 {
		r := turned(t, 4, first, 1, 2, 3, 4)
		all := r.All()
		one, two := r.List(), r.List()
		spoil(one)
		wantRing(t, "List spoilt", r, 4, 1, 2, 3, 4)
		if !slices.Equal(two, []int{1, 2, 3, 4}) {
			t.Error(two)
		}
		three, _ := r.Drop(2)
		put(t, r, 5, 6)
		if !slices.Equal(three, []int{1, 2}) {
			t.Error("Drop's answer is changed by Put", three)
		}
		spoil(three)
		spoil(two)
		none, _ := r.Drop(0)
		spoil(none)
		wantRing(t, "Drop spoilt", r, 4, 3, 4, 5, 6)
		four := r.Clear()
		put(t, r, 7, 8, 9, 10)
		if !slices.Equal(four, []int{3, 4, 5, 6}) {
			t.Error("Clear's answer is changed by Put", four)
		}
		spoil(four)
		wantRing(t, "Clear spoilt", r, 4, 7, 8, 9, 10)
		if got := things(t, all); !slices.Equal(got, []int{1, 2, 3, 4}) {
			t.Error("All", got)
		}
	}
}
