package rewrite

import (
	"slices"

	"customhouse/api"
	"customhouse/script"
)

const (
	maxForms = 1000
	dearest  = api.MaxLetters * api.MaxCost // no rewriting costs more
	never    = dearest + 1                  // the cost of what cannot be done
)

// step is what a rule does at a place of a word: it goes on to the place next, and writes to.
type step struct {
	next, cost int
	to         string
}

// search looks for the forms of a word with a cost of at most most. Place i is the one before the letter i; steps has those from each place, and rest the least cost from each place to the end.
type search struct {
	steps [][]step
	rest  []int
	most  int
}

// newSearch returns the search for the forms of a word with these letters.
func newSearch(rules []api.Rule, kind int, letters []string, most int) search {
	s := search{make([][]step, len(letters)), make([]int, len(letters)+1), min(most, dearest)}
	for _, r := range rules {
		if r.Script != kind {
			continue
		}
		// The From of a valid table is a word.
		from, _ := script.Letters(kind, r.From)
		for next := len(from); next <= len(letters); next++ {
			place := next - len(from)
			if slices.Equal(letters[place:next], from) {
				s.steps[place] = append(s.steps[place], step{next, r.Cost, r.To})
			}
		}
	}
	for place, steps := range slices.Backward(s.steps) {
		s.rest[place] = never
		for _, one := range steps {
			s.rest[place] = min(s.rest[place], one.cost+s.rest[one.next])
		}
	}
	return s
}

// forms returns the forms with their least costs, and false if there are more than maxForms.
func (s search) forms() (map[string]int, bool) {
	texts := make([]map[string]int, len(s.rest))
	for place := range texts {
		texts[place] = map[string]int{}
	}
	texts[0][""] = 0
	for place, steps := range s.steps {
		for text, cost := range texts[place] {
			for _, one := range steps {
				total := cost + one.cost
				if total+s.rest[one.next] <= s.most {
					keepLeast(texts[one.next], text+one.to, total)
				}
			}
		}
		// Different texts at a place, each continued in the same cheapest way, become different forms within the bound, so that there are no fewer forms than texts.
		if len(texts[place+1]) > maxForms {
			return nil, false
		}
	}
	return texts[len(s.steps)], true
}

// keepLeast puts a text with a cost into a map, unless it is there with a cost that is not greater.
func keepLeast(costs map[string]int, text string, cost int) {
	if old, ok := costs[text]; !ok || cost < old {
		costs[text] = cost
	}
}
