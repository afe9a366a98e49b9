package stops_test

import (
	"fmt"
	"math/rand"
	"slices"
	"strings"
	"testing"

	"millrace/api"
	"millrace/disk"
	"millrace/stops"
)

// drawn is a disk behind drawn calls, whose ways are not too many.
func drawn(t *testing.T, r *rand.Rand) *disk.Disk {
	t.Helper()
	d := diskOf(t)
	for range 30 {
		name := []string{"a", "b", "c-1", "b.", "0"}[r.Intn(5)]
		switch r.Intn(12) {
		case 0, 1, 2:
			d.Create(name)
		case 3, 4, 5, 6:
			d.Append(name, []byte("0123456789"[r.Intn(9):][:r.Intn(2)]))
		case 7:
			d.Sync(name)
		case 8:
			if r.Intn(3) == 0 {
				d.SyncDir()
			}
		case 9:
			d.Cut(name, r.Intn(3))
		case 10:
			d.Remove(name)
		case 11:
			oks(t, d.Feed(api.Fate{Kind: api.FateKind(r.Intn(3)), Keep: r.Intn(3)}))
		}
	}
	return d
}

// P8.1 to P8.4: drawn disks, held to the chapters' words.
func TestDrawn(t *testing.T) {
	r := rand.New(rand.NewSource(8))
	ways := 0
	for range 300 {
		d := drawn(t, r)
		want := plainStops(slices.Collect(d.All()))
		wantCount(t, "drawn", d, int64(len(want)))
		got := [][]int{}
		for s := range stops.All(d) {
			got = append(got, s.Picks)
		}
		if !slices.EqualFunc(got, want, slices.Equal) {
			t.Fatalf("%v, want %v", got, want)
		}
		for i, picks := range want {
			wantAt(t, "drawn", d, int64(i), picks)
			wantNumber(t, "drawn", d, api.Stop{Picks: picks}, int64(i))
		}
		wantPicks(t, r, d)
		wantFollows(t, d)
		ways += len(want)
		if t.Failed() {
			t.FailNow()
		}
	}
	if ways < 3000 {
		t.Error("too few ways were gone: ", ways)
	}
}

// wantPicks asks for drawn picks: by their plain stop the same is left, and it is plain.
func wantPicks(t *testing.T, r *rand.Rand, d *disk.Disk) {
	t.Helper()
	for range 20 {
		var picks []int
		for range r.Intn(12) {
			picks = append(picks, r.Intn([]int{2, 3, 10, 1 << 40}[r.Intn(4)]))
		}
		s := api.Stop{Picks: picks}
		plain, moduli := taken(slices.Collect(d.All()), picks)
		wantPlain(t, "drawn", d, s, plain)
		p, _ := stops.Plain(d, s)
		for i, m := range moduli {
			if p.Picks[i] < 0 || p.Picks[i] >= m {
				t.Errorf("%v is not plain", p)
			}
		}
		one, e := d.Crash(s)
		oks(t, e)
		two, e := d.Crash(p)
		oks(t, e)
		if !one.Same(two) {
			t.Errorf("%v leaves %q, %v %q", picks, left(one), p, left(two))
		}
		n, e := stops.Number(d, s)
		oks(t, e)
		wantAt(t, "P8.4: At of a Number", d, n, p.Picks)
	}
}

// wantFollows asks for what follows: P8.4.
func wantFollows(t *testing.T, d *disk.Disk) {
	t.Helper()
	least, e := stops.Least(d)
	oks(t, e)
	most, e := stops.Most(d)
	oks(t, e)
	all, e := stops.Count(d)
	oks(t, e)
	seen := map[string]int64{}
	n := int64(0)
	for s, o := range stops.Images(d) {
		wantNumber(t, "P8.4: rising", d, s, n)
		wantAt(t, "P8.4: Number of At", d, n, s.Picks)
		if !begins(least, o) || !begins(o, most) {
			t.Errorf("P8.4: %v: %q, %q, %q", s, left(least), left(o), left(most))
		}
		if x, _ := d.Crash(s); !o.Same(x) {
			t.Errorf("P8.2: %v: %q, %q", s, left(o), left(x))
		}
		seen[left(o)]++
		if n == 0 && !o.Same(least) || n == all-1 && !o.Same(most) {
			t.Errorf("P8.3: %q, %q, %q", left(least), left(o), left(most))
		}
		n++
	}
	if n != all || int64(len(seen)) != all {
		t.Errorf("P8.4: %d ways, %d unlike disks, want %d", n, len(seen), all)
	}
}

// begins tells whether each file of the one is on the other, where it begins with the same bytes.
func begins(one, other *disk.Disk) bool {
	for _, name := range one.Names() {
		a, _ := one.Read(name, 0, api.MaxSize)
		b, e := other.Read(name, 0, api.MaxSize)
		if e != api.OK || !strings.HasPrefix(string(b), string(a)) {
			return false
		}
	}
	return true
}

// P8.4: numbers and plain stops lead to each other, drawn of many ways.
func TestThereAndBack(t *testing.T) {
	r := rand.New(rand.NewSource(62))
	for k := range 40 {
		d := diskOf(t)
		for i := range r.Intn(7) {
			withBytes(t, d, fmt.Sprint("k", i), r.Intn(300))
		}
		for i := range r.Intn(7) {
			name := fmt.Sprint("j", i)
			oks(t, d.Create(name), d.Append(name, make([]byte, r.Intn(5))))
		}
		all, e := stops.Count(d)
		oks(t, e)
		files := slices.Collect(d.All())
		for range 50 {
			n := r.Int63n(all)
			s, e := stops.At(d, n)
			oks(t, e)
			wantNumber(t, fmt.Sprint("disk ", k), d, s, n)
			if plain, _ := taken(files, s.Picks); !slices.Equal(plain, s.Picks) {
				t.Errorf("At %d: %v is not plain", n, s)
			}
			o, e := stops.At(d, r.Int63n(all))
			oks(t, e)
			m, e := stops.Number(d, o)
			oks(t, e)
			if slices.Compare(s.Picks, o.Picks) != compare(n, m) {
				t.Errorf("%d %v, %d %v: not in one order", n, s, m, o)
			}
		}
	}
}

// compare tells which number is the lesser one.
func compare(a, b int64) int {
	switch {
	case a < b:
		return -1
	case a > b:
		return 1
	}
	return 0
}
