package stops_test

import "millrace/api"

// taken goes through a crash by the words of layer 7, pick by pick, over files that rise by their names: the picks that are taken, and by which numbers modulo.
func taken(files []api.File, picks []int) (plain, moduli []int) {
	take := func(of int) int {
		pick := 0
		if n := len(plain); n < len(picks) {
			pick = picks[n] % of
		}
		plain, moduli = append(plain, pick), append(moduli, of)
		return pick
	}
	for _, f := range files {
		is := f.There && f.NameLasts
		if f.There && !f.NameLasts || !f.There {
			is = take(2) == 1
		}
		if u := f.Size - f.Lasts; is && f.There && u > 0 {
			take(u + 1)
		}
	}
	return plain, moduli
}

// plainStops are all plain stops, in their order: from one to the next, the last pick that can be greater by 1 is, and behind it all is as little as it can be.
func plainStops(files []api.File) [][]int {
	var out [][]int
	picks, moduli := taken(files, nil)
	for {
		out = append(out, picks)
		i := len(picks) - 1
		for i >= 0 && picks[i] == moduli[i]-1 {
			i--
		}
		if i < 0 {
			return out
		}
		next := append([]int(nil), picks[:i+1]...)
		next[i]++
		picks, moduli = taken(files, next)
	}
}

// lastPlain is the last plain stop: pick by pick as great as it can be.
func lastPlain(files []api.File) []int {
	picks, moduli := taken(files, nil)
	for i := 0; i < len(picks); i++ {
		picks[i] = moduli[i] - 1
		picks, moduli = taken(files, picks[:i+1])
	}
	return picks
}
