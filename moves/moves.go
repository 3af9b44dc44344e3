// Package moves has what packages align and potential share: the states of two words that are brought to one form, and the moves between them. See shared/doc/11-align.md.
package moves

import (
	"iter"
	"strings"

	"customhouse/api"
	"customhouse/rewrite"
)

// Words are the two words that are brought to one form.
type Words struct{ Left, Right Side }

// New returns two words, or false if the table is not valid, or one of them is no word of its script.
func New(t api.Table, a int, x string, b int, y string) (Words, bool) {
	if !rewrite.Valid(t) {
		return Words{}, false
	}
	left, leftOK := newSide(t.Rules, a, x)
	right, rightOK := newSide(t.Rules, b, y)
	if !leftOK || !rightOK {
		return Words{}, false
	}
	return Words{left, right}, true
}

// Move uses a step of the left word, or of the right one, and leads to a state. States have no H.
type Move struct {
	Step
	Left  bool
	State api.Potential
}

// Begin returns the state in which nothing is used.
func Begin() api.Potential { return api.Potential{} }

// End returns the state in which all letters are used, and nothing is ahead.
func (w Words) End() api.Potential {
	return api.Potential{I: w.Left.Last(), J: w.Right.Last()}
}

// From yields the moves of a state, in the order of their rules.
func (w Words) From(at api.Potential) iter.Seq[Move] {
	return func(yield func(Move) bool) {
		left := at.Right || at.Ahead == "" && at.I < w.Left.Last()
		steps := w.Right[at.J]
		if left {
			steps = w.Left[at.I]
		}
		for _, one := range steps {
			state, ok := after(at, left, one)
			if ok && !yield(Move{one, left, state}) {
				return
			}
		}
	}
}

// after returns the state to which a step of the left word, or of the right one, leads, and false if this step is not possible.
func after(at api.Potential, left bool, one Step) (api.Potential, bool) {
	state := at
	if left {
		state.I = one.Next
	} else {
		state.J = one.Next
	}
	right := at.Right
	rest, ok := strings.CutPrefix(at.Ahead, one.To)
	if !ok {
		right = !left
		rest, ok = strings.CutPrefix(one.To, at.Ahead)
	}
	state.Ahead, state.Right = rest, right && rest != ""
	return state, ok
}
