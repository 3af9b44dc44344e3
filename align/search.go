package align

import (
	"iter"
	"strings"

	"customhouse/api"
)

// never is the cost from a state from which no moves lead to the end: it is greater than all others.
const never = 2*api.MaxLetters*api.MaxCost + 1

// move uses a step of the left word, or of the right one, and leads to a state. States have no H.
type move struct {
	step
	left  bool
	state api.Potential
}

// begin returns the state in which nothing is used.
func begin() api.Potential { return api.Potential{} }

// end returns the state in which all letters are used, and nothing is ahead.
func (w words) end() api.Potential {
	return api.Potential{I: w.left.last(), J: w.right.last()}
}

// moves yields the moves of a state, in the order of their rules.
func (w words) moves(at api.Potential) iter.Seq[move] {
	return func(yield func(move) bool) {
		left := at.Right || at.Ahead == "" && at.I < w.left.last()
		steps := w.right[at.J]
		if left {
			steps = w.left[at.I]
		}
		for _, one := range steps {
			state, ok := after(at, left, one)
			if ok && !yield(move{one, left, state}) {
				return
			}
		}
	}
}

// after returns the state to which a step of the left word, or of the right one, leads, and false if this step is not possible.
func after(at api.Potential, left bool, one step) (api.Potential, bool) {
	state := at
	if left {
		state.I = one.next
	} else {
		state.J = one.next
	}
	right := at.Right
	rest, ok := strings.CutPrefix(at.Ahead, one.to)
	if !ok {
		right = !left
		rest, ok = strings.CutPrefix(one.to, at.Ahead)
	}
	state.Ahead, state.Right = rest, right && rest != ""
	return state, ok
}

// search has the least costs from states to the end, as far as they are known.
type search struct {
	words
	costs map[api.Potential]int
}

// least returns the least cost from a state to the end, or never.
func (s search) least(at api.Potential) int {
	if at == s.end() {
		return 0
	}
	if cost, ok := s.costs[at]; ok {
		return cost
	}
	cost := never
	for m := range s.moves(at) {
		cost = min(cost, m.cost+s.least(m.state))
	}
	s.costs[at] = cost
	return cost
}

// first returns the first one of the cheapest derivations, of which there must be one.
func (s search) first() api.Derivation {
	cheapest := func(at api.Potential) move {
		var best move
		least := never
		for m := range s.moves(at) {
			if cost := m.cost + s.least(m.state); cost < least {
				best, least = m, cost
			}
		}
		return best
	}
	d := api.Derivation{Cost: s.least(begin())}
	for at := begin(); at != s.end(); {
		m := cheapest(at)
		if m.left {
			d.Left = append(d.Left, m.rule)
			d.Form += m.to
		} else {
			d.Right = append(d.Right, m.rule)
		}
		at = m.state
	}
	return d
}
