package keep_test

import "millrace/api"

// ruleMayBe, pieceMayBe and ordered are the chapter's words of what may be.
func ruleMayBe(r api.Rule) bool {
	return r.Bytes >= 0 && r.Bytes <= 1<<53 && r.Age >= 0 && r.Age <= 1<<53 && r.Pieces >= 0 && r.Pieces <= 4096 && r.Below >= 0 && r.Below <= 1<<53
}

func pieceMayBe(p api.Piece) bool {
	return p.Base >= 0 && p.Base <= 1<<53 && p.Bytes >= 0 && p.Bytes <= 1<<24 && p.Last >= 0 && p.Last <= 1<<53
}

func ordered(l []api.Piece) api.Errno {
	if len(l) > 4096 {
		return api.ErrLong
	}
	for i, p := range l {
		if !pieceMayBe(p) || i > 0 && l[i-1].Base >= p.Base {
			return api.ErrArg
		}
	}
	return api.OK
}

// wrong is the error of Goes.
func wrong(r api.Rule, now int64, l []api.Piece) api.Errno {
	if !ruleMayBe(r) || now < 0 || now > 1<<53 {
		return api.ErrArg
	}
	return ordered(l)
}

// below: are all records of the piece below Below?
func below(r api.Rule, i int, l []api.Piece) bool { return i+1 < len(l) && l[i+1].Base <= r.Below }

// byBytes, byAge and byPieces are the chapter's three reasons, each by itself.
func byBytes(r api.Rule, i int, l []api.Piece) bool {
	sum := int64(0)
	for _, p := range l[i+1:] {
		sum += p.Bytes
	}
	return r.Bytes > 0 && sum >= r.Bytes
}

func byAge(r api.Rule, now int64, p api.Piece) bool { return r.Age > 0 && now-p.Last > r.Age }

func byPieces(r api.Rule, i int, l []api.Piece) bool {
	return r.Pieces > 0 && len(l[i+1:]) >= r.Pieces
}

// mayGo: may this piece go by the rule at the time, whatever becomes of the others?
func mayGo(r api.Rule, now int64, i int, l []api.Piece) bool {
	return i != len(l)-1 && below(r, i, l) && (byBytes(r, i, l) || byAge(r, now, l[i]) || byPieces(r, i, l))
}

// goes is Goes, of what is not wrong.
func goes(r api.Rule, now int64, l []api.Piece) int {
	for i := range l {
		if !mayGo(r, now, i, l) {
			return i
		}
	}
	return len(l)
}

// why is Why, of what is not wrong and a place that is there.
func why(r api.Rule, now int64, at int, l []api.Piece) api.Why {
	ahead := true
	for i := range at {
		ahead = ahead && mayGo(r, now, i, l)
	}
	may := mayGo(r, now, at, l)
	switch {
	case at == len(l)-1:
		return api.WhyLast
	case !below(r, at, l):
		return api.WhyBelow
	case may && ahead && byBytes(r, at, l):
		return api.WhyBytes
	case may && ahead && byAge(r, now, l[at]):
		return api.WhyAge
	case may && ahead && byPieces(r, at, l):
		return api.WhyPieces
	case may:
		return api.WhyAhead
	}
	return api.WhyStays
}

// next is Next, of what is not wrong, asked of each of these times.
func next(r api.Rule, now int64, l []api.Piece, times []int64) (out int64, there bool) {
	for _, n := range times {
		if n >= now && n <= 1<<53 && goes(r, n, l) > goes(r, now, l) && (!there || n < out) {
			out, there = n, true
		}
	}
	return out, there
}

// turns are all times at which a piece may turn old enough, and those around them.
func turns(r api.Rule, now int64, l []api.Piece) []int64 {
	out := []int64{now, now + 1, 1 << 53}
	for _, p := range l {
		n := p.Last + r.Age
		out = append(out, n-1, n, n+1, n+2)
	}
	return out
}
