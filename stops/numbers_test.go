package stops_test

import (
	"fmt"
	"math"
	"slices"
	"testing"

	"millrace/api"
	"millrace/disk"
	"millrace/stops"
)

// P8.1: the chapter's examples.
func TestExamples(t *testing.T) {
	d := example(t)
	wantCount(t, "example", d, 6)
	wantPlain(t, "example", d, stopBy(7, 5, 9), []int{1, 1})
	wantPlain(t, "example", d, api.Stop{}, []int{0, 0})
	wantNumber(t, "example", d, stopBy(1, 1), 3)
	wantAt(t, "example", d, 5, []int{2, 1})
	if s, e := stops.At(d, 6); e != api.ErrRange || s.Picks != nil {
		t.Error(s, e)
	}
	if n, e := stops.Count(nil); e != api.ErrNil || n != 0 {
		t.Error(n, e)
	}
	wantCount(t, "without files", diskOf(t), 1)
}

// P8.1: each way of each shape, by its plain stop and by its number.
func TestShapes(t *testing.T) {
	for _, x := range shapes() {
		d := diskOf(t, x.files...)
		n := int64(len(x.ways))
		wantCount(t, x.what, d, n)
		for i, w := range x.ways {
			wantPlain(t, x.what, d, api.Stop{Picks: w.picks}, w.picks)
			wantNumber(t, x.what, d, api.Stop{Picks: w.picks}, int64(i))
			wantAt(t, x.what, d, int64(i), w.picks)
		}
		for _, past := range []int64{n, n + 1, 2 * n, 1 << 32, 1 << 62, math.MaxInt64} {
			if s, e := stops.At(d, past); e != api.ErrRange || s.Picks != nil {
				t.Errorf("%s: At %d: %v %v", x.what, past, s, e)
			}
		}
		for _, below := range []int64{-1, -n, math.MinInt64} {
			if s, e := stops.At(d, below); e != api.ErrArg || s.Picks != nil {
				t.Errorf("%s: At %d: %v %v", x.what, below, s, e)
			}
		}
	}
}

// P8.1: picks that are greater than what is picked of, too many, and too few.
func TestNotPlain(t *testing.T) {
	for _, x := range shapes() {
		d := diskOf(t, x.files...)
		for i, w := range x.ways {
			_, moduli := taken(slices.Collect(d.All()), w.picks)
			great := slices.Clone(w.picks)
			for j, m := range moduli {
				great[j] += m * (1 + j*j)
			}
			more := append(slices.Clone(w.picks), 1, 0, math.MaxInt, 3)
			few := slices.Clone(w.picks)
			for len(few) > 0 && few[len(few)-1] == 0 {
				few = few[:len(few)-1]
			}
			for _, picks := range [][]int{great, more, few} {
				wantPlain(t, x.what, d, api.Stop{Picks: picks}, w.picks)
				wantNumber(t, x.what, d, api.Stop{Picks: picks}, int64(i))
			}
		}
		noughts := make([]int, 40)
		wantPlain(t, x.what, d, api.Stop{Picks: noughts}, x.ways[0].picks)
		wantPlain(t, x.what, d, stopBy(), x.ways[0].picks)
		wantNumber(t, x.what, d, api.Stop{Picks: noughts}, 0)
		wantNumber(t, x.what, d, stopBy(), 0)
	}
}

// P8.1: the greatest picks that there are.
func TestGreatPicks(t *testing.T) {
	d := diskOf(t, state{"a", "|123456", true, true})
	for pick := range 30 {
		wantPlain(t, "a", d, stopBy(pick), []int{pick % 7})
		wantNumber(t, "a", d, stopBy(pick), int64(pick%7))
	}
	for less := range 9 {
		wantPlain(t, "greatest", d, stopBy(math.MaxInt-less), []int{(math.MaxInt - less) % 7})
	}
	wantPlain(t, "greatest", names(t, 2), stopBy(math.MaxInt, math.MaxInt-1, math.MaxInt), []int{1, 0})
}

// P8.1: a pick below 0, also where none is taken.
func TestPicksBelow(t *testing.T) {
	for _, x := range shapes() {
		d := diskOf(t, x.files...)
		for _, picks := range [][]int{{-1}, {math.MinInt}, {0, -1}, {-1, 0}, {1, 1, -2, 1}, append(make([]int, 50), -1), {-2}, {-7, 5, 9}} {
			got := refusals(d, api.Stop{Picks: picks}, 0)
			if want := [4]api.Errno{api.OK, api.ErrArg, api.ErrArg, api.OK}; got != want {
				t.Error(x.what, picks, got)
			}
		}
	}
}

// P8.1: nil and zero disks, with what else is wrong, too.
func TestNil(t *testing.T) {
	want := [4]api.Errno{api.ErrNil, api.ErrNil, api.ErrNil, api.ErrNil}
	for what, d := range none() {
		for _, picks := range [][]int{nil, {0}, {1, 1}, {-1}, {5, -1}} {
			for _, n := range []int64{0, 1, -1, math.MaxInt64, math.MinInt64} {
				if got := refusals(d, api.Stop{Picks: picks}, n); got != want {
					t.Error(what, picks, n, got)
				}
			}
		}
	}
}

// P8.1: just 2^62 ways.
func TestMostWays(t *testing.T) {
	for what, d := range map[string]*disk.Disk{"62 times 2": names(t, 62), "31 times 4": fours(t, 31), "5 times 2^12, and 4": fives(t)} {
		const n = int64(1) << 62
		wantCount(t, what, d, n)
		last, e := stops.At(d, n-1)
		oks(t, e)
		wantNumber(t, what, d, last, n-1)
		files := slices.Collect(d.All())
		if want := lastPlain(files); !slices.Equal(last.Picks, want) {
			t.Errorf("%s: the last one: %v, want %v", what, last.Picks, want)
		}
		for _, past := range []int64{n, n + 1, math.MaxInt64} {
			if got := refusals(d, api.Stop{}, past); got != [4]api.Errno{3: api.ErrRange} {
				t.Error(what, past, got)
			}
		}
		for _, at := range []int64{0, 1, 2, 3, 4, 5, 1<<31 - 1, 1 << 31, 1<<32 + 7, 1 << 61, 1<<61 - 1, n / 3, n - 2} {
			s, e := stops.At(d, at)
			oks(t, e)
			wantNumber(t, what, d, s, at)
			if plain, _ := taken(files, s.Picks); !slices.Equal(plain, s.Picks) {
				t.Errorf("%s: At %d: %v is not plain", what, at, s.Picks)
			}
		}
	}
	d := names(t, 62)
	wantAt(t, "bits", d, 5, append(make([]int, 59), 1, 0, 1))
	wantAt(t, "bits", d, 1<<61, append([]int{1}, make([]int, 61)...))
}

// fours is a disk of files with names and two bytes that do not last: 4 ways each.
func fours(t *testing.T, n int) *disk.Disk {
	d := names(t, n)
	for _, name := range d.Names() {
		oks(t, d.Append(name, []byte("xy")))
	}
	return d
}

// fives is a disk of five files of 4095 bytes, and one of 3, whose names last: 2^62 ways.
func fives(t *testing.T) *disk.Disk {
	d := diskOf(t)
	for i, n := range []int{4095, 4095, 3, 4095, 4095, 4095} {
		withBytes(t, d, fmt.Sprint(i), n)
	}
	return d
}

// tooMany are disks of more than 2^62 ways: by one, by a little, by so much that a product of 64 bits has gone round, to nought and to 2^62 too.
func tooMany(t *testing.T) map[string]*disk.Disk {
	byOne := diskOf(t)
	for i, m := range []int{5, 5581, 8681, 49477, 384773} {
		withBytes(t, byOne, fmt.Sprint(i), m-1)
	}
	round := diskOf(t)
	withBytes(t, round, "a", 4)
	back := diskOf(t)
	withBytes(t, back, "z", 4)
	for i := range 62 {
		oks(t, round.Create(fmt.Sprint("b-", i)), back.Create(fmt.Sprint("b-", i)))
	}
	great := diskOf(t)
	for i := range 3 {
		withBytes(t, great, fmt.Sprint(i), api.MaxSize)
	}
	return map[string]*disk.Disk{"by one": byOne, "2^63": names(t, 63), "2^64": names(t, 64), "2^65": names(t, 65), "5 times 2^62": round, "2^62 times 5": back, "2^4096": names(t, api.MaxFiles), "4^32": fours(t, 32), "2^72 and more": great}
}

// P8.1: more than 2^62 ways: ErrLong behind ErrArg and ahead of ErrRange; Plain goes.
func TestTooMany(t *testing.T) {
	for what, d := range tooMany(t) {
		for _, n := range []int64{0, 1, 1 << 62, math.MaxInt64} {
			if got := refusals(d, stopBy(1), n); got != [4]api.Errno{api.ErrLong, api.OK, api.ErrLong, api.ErrLong} {
				t.Error(what, n, got)
			}
		}
		if got := refusals(d, stopBy(0, -1), -1); got != [4]api.Errno{api.ErrLong, api.ErrArg, api.ErrArg, api.ErrArg} {
			t.Error(what, got)
		}
		files := slices.Collect(d.All())
		for _, picks := range [][]int{nil, {1, 1, 1, 1, 1}, {0, 1, 2, 3, 4, 5, 6, 7, 8, 9, 10, 11, 12}, slices.Repeat([]int{math.MaxInt, 3}, 2100)} {
			plain, _ := taken(files, picks)
			wantPlain(t, what, d, api.Stop{Picks: picks}, plain)
		}
	}
}

// P8.1: MaxSize bytes that do not last, and a name that does not: 2^24 + 2 ways.
func TestMaxSize(t *testing.T) {
	d := names(t, 1)
	oks(t, d.Append("n-0000", make([]byte, api.MaxSize)))
	wantCount(t, "MaxSize", d, api.MaxSize+2)
	wantAt(t, "MaxSize", d, 0, []int{0})
	wantAt(t, "MaxSize", d, 1, []int{1, 0})
	wantAt(t, "MaxSize", d, api.MaxSize+1, []int{1, api.MaxSize})
	wantNumber(t, "MaxSize", d, stopBy(3, 2*api.MaxSize+1), api.MaxSize+1)
	wantPlain(t, "MaxSize", d, stopBy(3, api.MaxSize+1), []int{1, 0})
	oks(t, d.SyncDir())
	wantCount(t, "its name lasts", d, api.MaxSize+1)
	oks(t, d.Sync("n-0000"))
	wantCount(t, "all lasts", d, 1)
}

// P8.1: MaxFiles names that may come back.
func TestMaxFiles(t *testing.T) {
	d := names(t, api.MaxFiles)
	oks(t, d.SyncDir())
	wantCount(t, "all last", d, 1)
	wantAt(t, "all last", d, 0, nil)
	all := d.Names()
	for _, name := range all[api.MaxFiles-3:] {
		oks(t, d.Remove(name))
	}
	wantCount(t, "three may come back", d, 8)
	wantAt(t, "three may come back", d, 6, []int{1, 1, 0})
	for _, name := range all[:api.MaxFiles-3] {
		oks(t, d.Remove(name))
	}
	wantPlain(t, "all may come back", d, stopBy(1, 2, 3), append([]int{1, 0, 1}, make([]int, api.MaxFiles-3)...))
	if n, e := stops.Count(d); n != 0 || e != api.ErrLong {
		t.Error(n, e)
	}
}

// P8.1: what is handed in is not changed, spare room included, nor kept; what is answered is new memory; the disk is as it was.
func TestNumbersMemory(t *testing.T) {
	d := example(t)
	oks(t, d.Feed(api.Fate{Kind: api.FateFail}))
	was := d.Copy()
	picks := []int{7, 5, 9, 11}
	plain, e := stops.Plain(d, api.Stop{Picks: picks[:2]})
	oks(t, e)
	wantNumber(t, "spare room", d, api.Stop{Picks: picks[:2]}, 3)
	if !slices.Equal(picks, []int{7, 5, 9, 11}) {
		t.Error(picks)
	}
	exact := []int{1, 1}
	same, e := stops.Plain(d, api.Stop{Picks: exact})
	oks(t, e)
	one, e := stops.At(d, 3)
	oks(t, e)
	two, e := stops.At(d, 3)
	oks(t, e)
	for _, l := range [][]int{picks, exact, plain.Picks, same.Picks, one.Picks} {
		for i := range l[:cap(l)] {
			l[:cap(l)][i] = -5
		}
	}
	if !slices.Equal(two.Picks, []int{1, 1}) {
		t.Error(two)
	}
	again, _ := stops.At(d, 3)
	if !slices.Equal(again.Picks, []int{1, 1}) || !d.Same(was) {
		t.Error(again)
	}
	for i, l := range [][]int{picks, exact, plain.Picks, same.Picks, one.Picks} {
		l[0] = 40 + i
	}
	if picks[0] != 40 || exact[0] != 41 || plain.Picks[0] != 42 || same.Picks[0] != 43 {
		t.Error(picks, exact, plain, same, one)
	}
	wasSteps, wasFates := was.Steps()
	if steps, fates := d.Steps(); steps != wasSteps || fates != wasFates {
		t.Error(steps, fates)
	}
}
