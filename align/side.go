package align

import (
	"slices"

	"customhouse/api"
	"customhouse/script"
)

// step is what a rule does at a place of a word: it goes on to the place next, and writes to.
type step struct {
	rule, next, cost int
	to               string
}

// side is one of the two words: what rules do at each of its places, in the order of the rules. Place i is the one before the letter i; nothing can be done at the last place, which is behind all letters.
type side [][]step

// newSide returns the side of a word for the rules of a valid table, or false if it is no word of the script.
func newSide(rules []api.Rule, kind int, word string) (side, bool) {
	folded, err := script.Fold(kind, word)
	if err != api.OK {
		return nil, false
	}
	// The folded form, and the From of a valid table, are words.
	letters, _ := script.Letters(kind, folded)
	s := make(side, len(letters)+1)
	for i, r := range rules {
		if r.Script != kind {
			continue
		}
		from, _ := script.Letters(kind, r.From)
		for next := len(from); next <= len(letters); next++ {
			place := next - len(from)
			if slices.Equal(letters[place:next], from) {
				s[place] = append(s[place], step{i, next, r.Cost, r.To})
			}
		}
	}
	return s, true
}

// last returns the place behind all letters.
func (s side) last() int { return len(s) - 1 }

// rewriting returns the form and the cost of a list of rules, and false if it is no rewriting of the word.
func (s side) rewriting(rules []int) (form string, cost int, ok bool) {
	place := 0
	for _, rule := range rules {
		at := slices.IndexFunc(s[place], func(one step) bool { return one.rule == rule })
		if at < 0 {
			return "", 0, false
		}
		one := s[place][at]
		form += one.to
		cost += one.cost
		place = one.next
	}
	return form, cost, place == s.last()
}
