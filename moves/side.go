package moves

import (
	"slices"

	"customhouse/api"
	"customhouse/script"
)

// Step is what a rule does at a place of a word: it goes on to the place Next, and writes To.
type Step struct {
	Rule, Next, Cost int
	To               string
}

// Side is one of the two words: what rules do at each of its places, in the order of the rules. Place i is the one before the letter i; nothing can be done at the last place, which is behind all letters.
type Side [][]Step

// newSide returns the side of a word for the rules of a valid table, or false if it is no word of the script.
func newSide(rules []api.Rule, kind int, word string) (Side, bool) {
	folded, err := script.Fold(kind, word)
	if err != api.OK {
		return nil, false
	}
	// The folded form, and the From of a valid table, are words.
	letters, _ := script.Letters(kind, folded)
	s := make(Side, len(letters)+1)
	for i, r := range rules {
		if r.Script != kind {
			continue
		}
		from, _ := script.Letters(kind, r.From)
		for next := len(from); next <= len(letters); next++ {
			place := next - len(from)
			if slices.Equal(letters[place:next], from) {
				s[place] = append(s[place], Step{i, next, r.Cost, r.To})
			}
		}
	}
	return s, true
}

// Last returns the place behind all letters.
func (s Side) Last() int { return len(s) - 1 }
