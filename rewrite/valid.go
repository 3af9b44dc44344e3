package rewrite

import (
	"customhouse/api"
	"customhouse/script"
)

const (
	maxFrom = 3 // letters of the From of a rule
	maxTo   = 3 // bytes of the To of a rule
	maxEnd  = 4 // letters of an ending
)

// set has the rows of one kind that a table has, without their costs.
type set[Row comparable] map[Row]bool

// add puts a row into a set, and reports whether it was not there yet.
func (s set[Row]) add(row Row) bool {
	if s[row] {
		return false
	}
	s[row] = true
	return true
}

// freeRule returns a rule without its cost, as no two rules may agree in the rest.
func freeRule(r api.Rule) api.Rule {
	r.Cost = 0
	return r
}

// freeDrop returns a drop without its cost, as no two of one kind may agree in the rest.
func freeDrop(d api.Drop) api.Drop {
	d.Cost = 0
	return d
}

// validRules reports whether a table may have these rules together.
func validRules(rules []api.Rule) bool {
	seen := set[api.Rule]{}
	for _, r := range rules {
		if !isFolded(r.Script, r.From, maxFrom) || !isTo(r.To) || !isCost(r.Cost) || !seen.add(freeRule(r)) {
			return false
		}
	}
	return true
}

// validDrops reports whether a table may have these drops, or ends, of at most so many letters together.
func validDrops(drops []api.Drop, letters int) bool {
	seen := set[api.Drop]{}
	for _, d := range drops {
		if !isFolded(d.Script, d.Word, letters) || !isCost(d.Cost) || !seen.add(freeDrop(d)) {
			return false
		}
	}
	return true
}

// isFolded reports whether a text is a folded word of a script, of at most so many letters.
func isFolded(kind int, text string, most int) bool {
	folded, err := script.Fold(kind, text)
	if err != api.OK || folded != text {
		return false
	}
	letters, _ := script.Letters(kind, text)
	return len(letters) <= most
}

// isTo reports whether a text may be the To of a rule.
func isTo(text string) bool {
	if len(text) > maxTo {
		return false
	}
	for i := range len(text) {
		if text[i] < 'a' || text[i] > 'z' {
			return false
		}
	}
	return true
}

// isCost reports whether a number is a cost.
func isCost(n int) bool { return n >= 0 && n <= api.MaxCost }
