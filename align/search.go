package align

import (
	"slices"

	"customhouse/api"
	"customhouse/moves"
)

// search has the least costs from states to the end.
type search struct {
	moves.Words
	costs map[api.Potential]int
}

// first returns the first one of the cheapest derivations, of which there must be one.
func (s search) first() api.Derivation {
	cheapest := func(at api.Potential) moves.Move {
		var best moves.Move
		least := moves.Never
		for m := range s.From(at) {
			if cost := m.Cost + s.costs[m.State]; cost < least {
				best, least = m, cost
			}
		}
		return best
	}
	d := api.Derivation{Cost: s.costs[moves.Begin()]}
	for at := moves.Begin(); at != s.End(); {
		m := cheapest(at)
		if m.Left {
			d.Left = append(d.Left, m.Rule)
			d.Form += m.To
		} else {
			d.Right = append(d.Right, m.Rule)
		}
		at = m.State
	}
	return d
}

// rewriting returns the form and the cost of a list of rules, and false if it is no rewriting of a word.
func rewriting(s moves.Side, rules []int) (form string, cost int, ok bool) {
	place := 0
	for _, rule := range rules {
		at := slices.IndexFunc(s[place], func(one moves.Step) bool { return one.Rule == rule })
		if at < 0 {
			return "", 0, false
		}
		one := s[place][at]
		form += one.To
		cost += one.Cost
		place = one.Next
	}
	return form, cost, place == s.Last()
}
