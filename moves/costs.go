package moves

import "customhouse/api"

// Never is the cost from a state from which no moves lead to the end: it is greater than all other costs, and than all bounds of costs.
const Never = api.MaxBound + 1

// search has the least costs from states to the end, as far as they are known.
type search struct {
	Words
	costs map[api.Potential]int
}

// Costs returns the least costs to the end, or Never: from all states to which moves lead from the begin, itself included, and from the end.
func (w Words) Costs() map[api.Potential]int {
	s := search{w, map[api.Potential]int{w.End(): 0}}
	s.least(Begin())
	return s.costs
}

// least returns the least cost from a state to the end, or Never.
func (s search) least(at api.Potential) int {
	if cost, ok := s.costs[at]; ok {
		return cost
	}
	cost := Never
	for m := range s.From(at) {
		cost = min(cost, m.Cost+s.least(m.State))
	}
	s.costs[at] = cost
	return cost
}
