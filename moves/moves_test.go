package moves_test

import (
	"maps"
	"slices"
	"testing"

	"customhouse/api"
	"customhouse/moves"
)

const (
	plain = api.ScriptPlain
	cased = api.ScriptCased
)

// table has rules of two scripts, of which one writes nothing.
func table() api.Table {
	return api.Table{Rules: []api.Rule{{Script: plain, From: "a", To: "xy", Cost: 1}, {Script: plain, From: "ab", To: "x", Cost: 2}, {Script: cased, From: "a'", To: "x", Cost: 3}, {Script: plain, From: "b", To: "", Cost: 4}, {Script: cased, From: "b", To: "yz", Cost: 5}, {Script: cased, From: "b", To: "y", Cost: 6}}}
}

// words returns the words of a test, with the table.
func words(t *testing.T, left, right string) moves.Words {
	t.Helper()
	w, ok := moves.New(table(), plain, left, cased, right)
	if !ok {
		t.Fatalf("%q or %q is no word", left, right)
	}
	return w
}

func TestNew(t *testing.T) {
	w := words(t, "aab", "A'B")
	if w.Left.Last() != 3 || w.Right.Last() != 2 || moves.Begin() != (api.Potential{}) || w.End() != (api.Potential{I: 3, J: 2}) {
		t.Errorf("the words are %v", w)
	}
	left := moves.Side{{{Rule: 0, Next: 1, Cost: 1, To: "xy"}}, {{Rule: 0, Next: 2, Cost: 1, To: "xy"}, {Rule: 1, Next: 3, Cost: 2, To: "x"}}, {{Rule: 3, Next: 3, Cost: 4}}, nil}
	if !slices.EqualFunc(w.Left, left, slices.Equal) {
		t.Errorf("the left word is %v", w.Left)
	}
	for _, one := range []struct {
		table api.Table
		a     int
		x     string
		b     int
		y     string
	}{
		{api.Table{}, plain, "a", cased, "a"}, {table(), plain, "", cased, "a"}, {table(), plain, "A", cased, "a"}, {table(), plain, "a", cased, "'"}, {table(), 0, "a", cased, "a"}, {table(), plain, "a", 5, "a"},
	} {
		if w, ok := moves.New(one.table, one.a, one.x, one.b, one.y); ok || w.Left != nil || w.Right != nil {
			t.Errorf("%q and %q are words: %v", one.x, one.y, w)
		}
	}
}

func TestFrom(t *testing.T) {
	w := words(t, "aab", "A'B")
	for _, one := range []struct {
		at   api.Potential
		want []api.Potential
	}{
		{moves.Begin(), []api.Potential{{I: 1, Ahead: "xy"}}},
		{api.Potential{I: 1}, []api.Potential{{I: 2, Ahead: "xy"}, {I: 3, Ahead: "x"}}},
		{api.Potential{I: 1, Ahead: "xy"}, []api.Potential{{I: 1, J: 1, Ahead: "y"}}},
		{api.Potential{I: 1, J: 1, Ahead: "y"}, []api.Potential{{I: 1, J: 2, Ahead: "z", Right: true}, {I: 1, J: 2}}},
		{api.Potential{I: 1, J: 1, Ahead: "x", Right: true}, []api.Potential{{I: 2, J: 1, Ahead: "y"}, {I: 3, J: 1}}},
		{api.Potential{I: 2, J: 1, Ahead: "x", Right: true}, []api.Potential{{I: 3, J: 1, Ahead: "x", Right: true}}},
		{api.Potential{I: 3}, []api.Potential{{I: 3, J: 1, Ahead: "x", Right: true}}},
		{api.Potential{I: 3, J: 2, Ahead: "x"}, nil}, {api.Potential{I: 3, J: 2, Ahead: "x", Right: true}, nil}, {w.End(), nil},
	} {
		var got []api.Potential
		for m := range w.From(one.at) {
			got = append(got, m.State)
		}
		if !slices.Equal(got, one.want) {
			t.Errorf("moves lead from %v to %v, and not to %v", one.at, got, one.want)
		}
	}
	for m := range w.From(api.Potential{I: 1}) {
		if !m.Left || m.Rule != 0 || m.Cost != 1 {
			t.Errorf("the first move is %v", m)
		}
		break
	}
}

func TestCosts(t *testing.T) {
	for _, one := range []struct {
		left, right string
		want        map[api.Potential]int
	}{
		{"a", "A'B", map[api.Potential]int{{}: 10, {I: 1, Ahead: "xy"}: 9, {I: 1, J: 1, Ahead: "y"}: 6, {I: 1, J: 2, Ahead: "z", Right: true}: moves.Never, {I: 1, J: 2}: 0}},
		{"ab", "a'", map[api.Potential]int{{}: 5, {I: 1, Ahead: "xy"}: moves.Never, {I: 2, Ahead: "x"}: 3, {I: 1, J: 1, Ahead: "y"}: moves.Never, {I: 2, J: 1}: 0}},
		{"a", "b", map[api.Potential]int{{}: moves.Never, {I: 1, Ahead: "xy"}: moves.Never, {I: 1, J: 1}: 0}},
	} {
		if got := words(t, one.left, one.right).Costs(); !maps.Equal(got, one.want) {
			t.Errorf("the costs of %q and %q are %v", one.left, one.right, got)
		}
	}
}
