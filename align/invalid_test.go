package align_test

import (
	"math"
	"slices"
	"strconv"
	"testing"

	"customhouse/api"
	"customhouse/rewrite"
)

// invalid are tables that are not valid for one reason each, with the reasons. What is wrong stands behind the rules of a valid table, whose indices stay as they are, wherever that is possible.
func invalid() map[string]api.Table {
	m := map[string]api.Table{"no rules": {}, "drops alone": {Drops: []api.Drop{drop(plain, "a", 0)}}}
	add := func(reason string, change func(*api.Table)) {
		t := scripts()
		change(&t)
		m[reason] = t
	}
	for reason, r := range map[string]api.Rule{
		"no script 0": rule(0, "a", "a", 0), "no script 5": rule(5, "a", "a", 0), "no script -1": rule(-1, "a", "a", 0), "no From": rule(plain, "", "b", 0),
		"From of another script": rule(plain, "a'", "b", 0), "From of no vowels": rule(abjad, "a", "b", 0), "From of half a syllable": rule(syllab, "k", "b", 0), "From with a blank": rule(cased, "a b", "b", 0),
		"From with a capital letter": rule(cased, "A", "b", 0), "From with a last capital letter": rule(cased, "a'B", "b", 0), "From with four letters": rule(plain, "abcd", "b", 0), "From with four syllables": rule(syllab, "kakikuke", "b", 0), "From with four accents": rule(cased, "a'a'a'a'", "b", 0), "From with 13 letters": rule(plain, rep("a", 13), "b", 0),
		"To with four bytes": rule(plain, "b", "abcd", 0), "To with a capital letter": rule(plain, "b", "B", 0), "To with an accent": rule(plain, "b", "b'", 0), "To with a blank": rule(plain, "b", " ", 0), "To with another byte": rule(plain, "b", "\xff", 0),
		"cost -1": rule(plain, "b", "b", -1), "cost 1001": rule(plain, "b", "b", 1001), "cost MinInt": rule(plain, "b", "b", math.MinInt), "cost MaxInt": rule(plain, "b", "b", math.MaxInt),
		"a rule twice": rule(plain, "n", "n", 0), "a rule twice at another cost": rule(plain, "n", "n", 7), "a rule of two letters twice": rule(cased, "a'n^", "any", 1000), "a silent rule twice": rule(abjad, "'", "", 0),
	} {
		add(reason, func(t *api.Table) { t.Rules = append(t.Rules, r) })
	}
	for reason, d := range map[string]api.Drop{
		"no script": drop(0, "a", 0), "no script 5": drop(5, "n", 0), "no word": drop(plain, "", 0), "a word of another script": drop(abjad, "a", 0), "a capital letter": drop(cased, "A", 0), "13 letters": drop(plain, rep("a", 13), 0), "cost -1": drop(plain, "b", -1), "cost 1001": drop(plain, "b", 1001),
	} {
		add("drop: "+reason, func(t *api.Table) { t.Drops = append(t.Drops, d) })
		add("end: "+reason, func(t *api.Table) { t.Ends = append(t.Ends, d) })
	}
	add("a drop twice", func(t *api.Table) { t.Drops = append(t.Drops, drop(plain, "na", 7)) })
	add("an end twice", func(t *api.Table) { t.Ends = append(t.Ends, drop(plain, "a", 7)) })
	add("an end of five letters", func(t *api.Table) { t.Ends = append(t.Ends, drop(plain, "abcde", 0)) })
	for _, n := range []int{-1, 1001, math.MinInt, math.MaxInt} {
		number := strconv.Itoa(n)
		add("Drop "+number, func(t *api.Table) { t.Drop = n })
		add("Order "+number, func(t *api.Table) { t.Order = n })
		add("Initial "+number, func(t *api.Table) { t.Initial = n })
	}
	add("81 rules", func(t *api.Table) { t.Rules = append(t.Rules, numbered(81-len(t.Rules))...) })
	add("many rules", func(t *api.Table) { t.Rules = append(t.Rules, numbered(300)...) })
	add("41 drops", func(t *api.Table) { t.Drops = drops(41) })
	add("41 ends", func(t *api.Table) { t.Ends = drops(41) })
	return m
}

// numbered returns so many rules that may stand in a table.
func numbered(n int) []api.Rule {
	var l []api.Rule
	for i := range n {
		l = append(l, rule(plain, "z", string([]byte{'a' + byte(i/26), 'a' + byte(i%26)}), 1))
	}
	return l
}

// drops returns so many drops, or ends, of which a table may have 40.
func drops(n int) []api.Drop {
	var l []api.Drop
	for i := range n {
		l = append(l, drop([]int{plain, cased}[i/26], string([]byte{'a' + byte(i%26)}), 1))
	}
	return l
}

// refused fails a test if Best has another error than ErrArg, or a result beside it, or if Check finds the derivation right.
func refused(t *testing.T, table api.Table, p pair, d api.Derivation) {
	t.Helper()
	if got, err := p.best(table); !same(got, api.Derivation{}) || err != api.ErrArg {
		t.Errorf("Best of %v is %v, %d", p, got, err)
	}
	if p.check(table, d) || p.check(table, api.Derivation{}) {
		t.Errorf("Check of %v, for %v, is true", d, p)
	}
}

// P11.1, K1 and K2: ErrArg for a table that is not valid, for each reason; no derivation is right with it, though it would be right with the valid table.
func TestTablesThatAreNotValid(t *testing.T) {
	good := map[pair]api.Derivation{
		{plain, "na", plain, "na"}: by(0, "na", "1 6", "1 6"), {plain, "na", syllab, "na"}: by(0, "na", "1 6", "0"), {cased, "A'N^", cased, "AN^"}: by(1, "any", "12", "7 3"), {abjad, "n'", plain, "na"}: by(1, "na", "4 10", "1 6"),
	}
	for p, d := range good {
		checkRight(t, scripts(), p, d)
	}
	for reason, table := range invalid() {
		if rewrite.Valid(table) {
			t.Errorf("a table is valid: %s", reason)
		}
		for p, d := range good {
			refused(t, table, p, d)
		}
		// Words without derivations, and what is no word.
		for _, p := range []pair{{plain, "zk", plain, "a"}, {plain, "", plain, ""}, {0, "a", 5, "a"}, {cased, "a b", cased, "a"}} {
			refused(t, table, p, api.Derivation{})
		}
		if t.Failed() {
			t.Fatalf("with a table that is not valid: %s", reason)
		}
	}
	// As many rows as there may be.
	full := scripts()
	full.Rules = append(full.Rules, numbered(80-len(full.Rules))...)
	full.Drops, full.Ends = drops(40), drops(40)
	full.Drop, full.Order, full.Initial = 1000, 1000, 1000
	for p, d := range good {
		checkBest(t, full, p, d, api.OK)
		checkRight(t, full, p, d)
	}
	checkBest(t, full, pair{plain, "z", plain, "z"}, by(2, "aa", "19", "19"), api.OK)
	checkBest(t, full, pair{plain, "z", plain, "ck"}, api.Derivation{}, api.ErrNone)
}

// P11.1, K1 and K2: ErrArg for what is no word of its script, on either side, whatever the other word is.
func TestWordsThatAreNoWords(t *testing.T) {
	table := scripts()
	table.Rules = append(table.Rules, rule(plain, "b", "b", 0), rule(cased, "b", "b", 0))
	words := []pair{{a: plain, x: "na"}, {a: plain, x: "k"}, {a: cased, x: "A'n"}, {a: abjad, x: "n'"}, {a: syllab, x: "nana"}, {a: syllab, x: rep("n", 12)}}
	for script, texts := range [][]string{
		plain:  {"", "A", "Na", "nA", "a'", "'", "n a", " n", "n ", "1", "n\x00", "\xff", "é", rep("a", 13), rep("n", 100)},
		cased:  {"", "'", "'a", "a''", "a'^", "n a", " ", "1", "A-", "é", rep("a", 13), rep("A'", 13)},
		abjad:  {"", "a", "na", "an", "N", "b^", "n n", "c", rep("'", 13), rep("n", 13)},
		syllab: {"", "k", "nk", "sta", "Na", "NA", "la", "na'", "na na", rep("n", 13), rep("na", 13), rep("a", 13)},
	} {
		if script == 0 {
			continue
		}
		for _, text := range texts {
			for _, other := range append(slices.Clone(words), pair{a: script, x: text}) {
				p := pair{script, text, other.a, other.x}
				refused(t, table, p, by(0, "na", "1 6", "1 6"))
				refused(t, table, p.swapped(), by(0, "na", "1 6", "1 6"))
			}
		}
	}
	for _, script := range noScripts {
		for _, text := range []string{"", "a", "n", "na", "'", "A", "A'", rep("n", 12), rep("n", 13)} {
			for _, other := range words {
				p := pair{script, text, other.a, other.x}
				refused(t, table, p, by(0, "na", "1 6", "1 6"))
				refused(t, table, p.swapped(), by(0, "na", "1 6", "1 6"))
			}
			refused(t, table, pair{script, text, script, text}, api.Derivation{})
		}
	}
	// Words of one script are none of another one, though it has rules for their letters.
	refused(t, table, pair{plain, "A", cased, "A"}, by(0, "a", "6", "7"))
	refused(t, table, pair{cased, "A", plain, "A"}, by(0, "a", "7", "6"))
	refused(t, table, pair{syllab, "b", plain, "b"}, by(0, "b", "19", "19"))
	checkBest(t, table, pair{cased, "B", plain, "b"}, by(0, "b", "20", "19"), api.OK)
}

// P1: both functions end for long tables, words and lists, and for numbers at the limits of int.
func TestLongArguments(t *testing.T) {
	long := rep("na", 1<<22)
	rules := slices.Repeat([]api.Rule{rule(plain, "a", "a", 0)}, 1<<20)
	rows := slices.Repeat([]api.Drop{drop(plain, "a", 0)}, 1<<20)
	p := pair{plain, "a", plain, "a"}
	for _, table := range []api.Table{
		{Rules: rules}, {Rules: rules[:1], Drops: rows}, {Rules: rules[:1], Ends: rows}, tableOf(rule(plain, long, "a", 0)), tableOf(rule(plain, "a", long, 0)), tableOf(rule(syllab, long, long, 0)), tableOf(rule(math.MinInt, "a", "a", math.MaxInt)), {Rules: rules[:1], Drop: math.MinInt, Order: math.MaxInt}, {Rules: rules[:1], Ends: []api.Drop{drop(syllab, long, 0)}},
	} {
		refused(t, table, p, by(0, "a", "0", "0"))
	}
	for _, script := range append(slices.Clone(noScripts), all...) {
		for _, word := range []string{long, "n" + long, rep("'", 1<<22), rep("\x80", 1<<20), rep("A'", 1<<20)} {
			refused(t, scripts(), pair{script, word, plain, "na"}, by(0, "na", "1 6", "1 6"))
			refused(t, scripts(), pair{plain, "na", script, word}, by(0, "na", "1 6", "1 6"))
		}
	}
	silent := tableOf(rule(plain, "a", "", 0), rule(plain, "aa", "", 1000))
	for _, list := range [][]int{make([]int, 1<<22), slices.Repeat([]int{1}, 1<<22), slices.Repeat([]int{-1}, 1<<20), slices.Repeat([]int{math.MaxInt, math.MinInt}, 1<<20)} {
		for _, cost := range []int{0, math.MaxInt, math.MinInt} {
			for _, form := range []string{"", long} {
				for _, d := range []api.Derivation{{Cost: cost, Left: list, Right: list, Form: form}, {Cost: cost, Left: []int{0}, Right: list, Form: form}, {Cost: cost, Left: list, Right: []int{0}, Form: form}} {
					if p.check(silent, d) {
						t.Errorf("a derivation of %d and %d moves is right", len(d.Left), len(d.Right))
					}
				}
			}
		}
	}
	checkBest(t, silent, p, by(0, "", "0", "0"), api.OK)
}
