package rewrite_test

import (
	"math"
	"math/rand/v2"
	"reflect"
	"slices"
	"strings"
	"testing"

	"customhouse/api"
	"customhouse/rewrite"
)

// P1: all functions end for long tables, words and texts, and for numbers at the limits of int.
func TestLongArguments(t *testing.T) {
	long := rep("na", 1<<23)
	rules := slices.Repeat([]api.Rule{rule(plain, "a", "a", 0)}, 1<<20)
	drops := slices.Repeat([]api.Drop{drop(plain, "a", 0)}, 1<<20)
	tables := []api.Table{
		{Rules: rules}, {Rules: rules[:1], Drops: drops}, {Rules: rules[:1], Ends: drops}, {Rules: rules, Drops: drops, Ends: drops},
		{Rules: []api.Rule{rule(plain, long, "a", 0)}}, {Rules: []api.Rule{rule(plain, "a", long, 0)}}, {Rules: []api.Rule{rule(syllab, long, long, 0)}},
		{Rules: rules[:1], Drops: []api.Drop{drop(plain, long, 0)}}, {Rules: rules[:1], Ends: []api.Drop{drop(syllab, long, 0)}},
		{Rules: []api.Rule{rule(math.MinInt, "a", "a", math.MaxInt)}}, {Rules: rules[:1], Drop: math.MinInt, Order: math.MaxInt, Initial: math.MinInt},
	}
	for i, table := range tables {
		if rewrite.Valid(table) {
			t.Errorf("the table %d is valid", i)
		}
		if text, err := rewrite.Text(table); text != "" || err != api.ErrArg {
			t.Errorf("Text of the table %d has the error %d", i, err)
		}
		if forms, costs, err := rewrite.Forms(table, plain, "a", math.MaxInt); len(forms) != 0 || len(costs) != 0 || err != api.ErrArg {
			t.Errorf("Forms of the table %d has the error %d", i, err)
		}
	}
	for _, script := range append(slices.Clone(noScripts), all...) {
		for _, word := range []string{long, "n" + long, rep("n", 1<<24), rep("'", 1<<24), rep("\x80", 1<<20)} {
			for _, most := range []int{math.MinInt, -1, 0, math.MaxInt} {
				checkForms(t, mixed(), script, word, most, nil, api.ErrArg)
			}
			if l, err := rewrite.Variants(mixed(), script, word); len(l) != 0 || err != api.ErrArg {
				t.Errorf("Variants of a long word has the error %d", err)
			}
			if n, err := rewrite.Dropping(mixed(), script, word); n != 0 || err != api.ErrArg {
				t.Errorf("Dropping of a long word has the error %d", err)
			}
		}
	}
	for _, piece := range []string{";", " ", "rule ", oneRule, lastLine, "\"", "#", "!", "9", "\"a\" ", "drop plain \"a\" 1;", "\x80"} {
		if got := parse(rep(piece, 1<<24/len(piece))); !got.same(failed(api.ErrLimit, -1)) {
			t.Errorf("Parse of a long text is %v", got)
		}
		checkText(t, rep(piece, 20000/len(piece)))
		checkText(t, oneRule+rep(piece, 10000/len(piece)))
	}
}

// P1: with an error every other result is its zero value, and without one the offset is 0.
func TestResultsBesideErrors(t *testing.T) {
	r := rand.New(rand.NewPCG(10, 16))
	whole := longText()
	for i := range len(whole) {
		for _, text := range []string{whole[:i], whole[i:], whole[:i] + "; " + whole[i:], whole[:i] + pick(r, []string{" 1 ", "9", "a", "\"", " rule "}) + whole[i:]} {
			table, err, at := rewrite.Parse(text)
			if err != api.OK && !sameTable(table, api.Table{}) || err == api.OK && (at != 0 || !rewrite.Valid(table)) {
				t.Fatalf("Parse of %s is %v, %d, %d", shortened(text), table, err, at)
			}
		}
	}
}

// results returns all results for a table, a script, a word and a bound.
func results(table api.Table, script int, word string, most int) []any {
	text, e1 := rewrite.Text(table)
	forms, costs, e2 := rewrite.Forms(table, script, word, most)
	variants, e3 := rewrite.Variants(table, script, word)
	cost, e4 := rewrite.Dropping(table, script, word)
	parsed, e5, at := rewrite.Parse(text)
	return []any{rewrite.Valid(table), text, e1, slices.Concat(forms), slices.Concat(costs), e2, slices.Concat(variants), e3, cost, e4, slices.Concat(parsed.Rules), slices.Concat(parsed.Drops), slices.Concat(parsed.Ends), parsed.Drop, parsed.Order, parsed.Initial, e5, at}
}

// P3: equal arguments yield equal results, whatever was asked for before, and whatever became of earlier results.
func TestEqualArgumentsYieldEqualResults(t *testing.T) {
	r := rand.New(rand.NewPCG(10, 17))
	for _, table := range append(someTables(300), invalidTables()[:20]...) {
		script := pick(r, all)
		if rewrite.Valid(table) {
			script = pick(r, []int{script, table.Rules[0].Script})
		}
		word := raised(r, script, randomWord(r, script, 8))
		for _, most := range []int{-1, 2, math.MaxInt} {
			want := results(table, script, word, most)
			spoil(table, script, word, most)
			results(example(), plain, "anna", 5)
			if got := results(cloned(table), script, strings.Clone(word), most); !reflect.DeepEqual(got, want) {
				t.Fatalf("%q in %d, at most %d, has %v at last, not %v", word, script, most, got, want)
			}
		}
	}
}

// spoil changes all results of a call.
func spoil(table api.Table, script int, word string, most int) {
	forms, costs, _ := rewrite.Forms(table, script, word, most)
	variants, _ := rewrite.Variants(table, script, word)
	text, _ := rewrite.Text(table)
	parsed, _, _ := rewrite.Parse(text)
	for i := range forms {
		forms[i], costs[i] = "spoilt", -7
	}
	for i := range variants {
		variants[i] = variant("spoilt", 99, -7)
	}
	for i := range parsed.Rules {
		parsed.Rules[i] = rule(9, "spoilt", "spoilt", -7)
	}
}

// P3: the drops and the ends of a table that is parsed share no memory, also behind their ends.
func TestResultsShareNoMemory(t *testing.T) {
	for n := range 8 {
		text := oneRule + manyDrops("drop", n) + manyDrops("end", n) + lastLine
		table, _, _ := rewrite.Parse(text)
		again, _, _ := rewrite.Parse(text)
		want := cloned(table)
		drops := append(table.Drops, drop(plain, "z", 7), drop(plain, "y", 7))
		rules := append(table.Rules, rule(plain, "z", "z", 7))
		for i := range drops {
			drops[i] = drop(plain, "x", 9)
		}
		for i := range rules {
			rules[i] = rule(plain, "x", "x", 9)
		}
		if !slices.Equal(table.Ends, want.Ends) || !sameTable(again, want) {
			t.Fatalf("%d ends became %v", n, table.Ends)
		}
	}
}

// No call changes its arguments.
func TestArgumentsAreNotChanged(t *testing.T) {
	r := rand.New(rand.NewPCG(10, 18))
	for _, table := range append(someTables(200), invalidTables()...) {
		for _, script := range append([]int{0, 5}, all...) {
			word := "N"
			if slices.Contains(all, script) {
				word = raised(r, script, randomWord(r, script, 8))
			}
			for _, most := range []int{-1, 1, math.MaxInt} {
				unchanged(t, table, func(given api.Table) { results(given, script, word, most) })
			}
		}
	}
}
