package potential

import (
	"cmp"
	"strings"

	"customhouse/api"
	"customhouse/moves"
)

// mostAhead is the number of bytes of the longest To of a rule.
const mostAhead = 3

// certificate has the H of states, which are kept without it.
type certificate struct {
	moves.Words
	h map[api.Potential]int
}

// compare puts states in order.
func compare(p, q api.Potential) int {
	return cmp.Or(cmp.Compare(p.I, q.I), cmp.Compare(p.J, q.J), strings.Compare(p.Ahead, q.Ahead), cmp.Compare(right(p), right(q)))
}

// right returns 1 for a state in which the right word has written more, so that it comes behind others.
func right(p api.Potential) int {
	if p.Right {
		return 1
	}
	return 0
}

// newCertificate returns the certificate of a list for a bound, or false if an element is none for this bound, or not behind the one before it.
func newCertificate(w moves.Words, bound int, l []api.Potential) (certificate, bool) {
	c := certificate{w, map[api.Potential]int{}}
	for i, p := range l {
		inOrder := i == 0 || compare(l[i-1], p) < 0
		h := p.H
		p.H = 0
		if !inOrder || !c.isState(p) || h < 1 || h > min(bound, api.MaxBound) {
			return certificate{}, false
		}
		c.h[p] = h
	}
	return c, true
}

// isState reports whether this, without an H, is a state other than the end.
func (c certificate) isState(p api.Potential) bool {
	used := 0 <= p.I && p.I <= c.Left.Last() && 0 <= p.J && p.J <= c.Right.Last()
	written := len(p.Ahead) <= mostAhead && !strings.ContainsFunc(p.Ahead, isNoLetter)
	return used && written && (p.Ahead != "" || !p.Right) && p != c.End()
}

// isNoLetter reports whether this is none of the letters that rules write.
func isNoLetter(r rune) bool { return r < 'a' || r > 'z' }

// fallsSlowly reports whether no move takes more from an H than it costs.
func (c certificate) fallsSlowly() bool {
	for state, h := range c.h {
		for m := range c.From(state) {
			if h > m.Cost+c.h[m.State] {
				return false
			}
		}
	}
	return true
}
