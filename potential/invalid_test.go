package potential_test

import (
	"math"
	"slices"
	"strconv"
	"testing"

	"customhouse/api"
	"customhouse/rewrite"
)

// invalid are tables that are not valid for one reason each, with the reasons. Apart from what is wrong, they have the rows of a valid table, wherever that is possible.
func invalid() map[string]api.Table {
	m := map[string]api.Table{"no rules": {}, "drops alone": {Drops: []api.Drop{drop(plain, "a", 0)}}}
	add := func(reason string, change func(*api.Table)) {
		t := scripts()
		change(&t)
		m[reason] = t
	}
	for reason, r := range map[string]api.Rule{
		"no script 0": rule(0, "a", "a", 0), "no script 5": rule(5, "a", "a", 0), "no script -1": rule(-1, "a", "a", 0), "no From": rule(plain, "", "b", 0),
		"From of another script": rule(plain, "a'", "b", 0), "From of no vowels": rule(abjad, "a", "b", 0), "From of half a syllable": rule(syllab, "k", "b", 0), "From with a blank": rule(cased, "a b", "b", 0),
		"From with a capital letter": rule(cased, "A", "b", 0), "From with a last capital letter": rule(cased, "a'B", "b", 0), "From with four letters": rule(plain, "abcd", "b", 0), "From with four syllables": rule(syllab, "kakikuke", "b", 0), "From with four accents": rule(cased, "a'a'a'a'", "b", 0), "From with 13 letters": rule(plain, rep("a", 13), "b", 0),
		"To with four bytes": rule(plain, "b", "abcd", 0), "To with a capital letter": rule(plain, "b", "B", 0), "To with an accent": rule(plain, "b", "b'", 0), "To with a blank": rule(plain, "b", " ", 0), "To with another byte": rule(plain, "b", "\xff", 0),
		"cost -1": rule(plain, "b", "b", -1), "cost 1001": rule(plain, "b", "b", 1001), "cost MinInt": rule(plain, "b", "b", math.MinInt), "cost MaxInt": rule(plain, "b", "b", math.MaxInt),
		"a rule twice": rule(plain, "n", "n", 0), "a rule twice at another cost": rule(plain, "n", "n", 7), "a rule of two letters twice": rule(cased, "na", "y", 1000),
	} {
		add(reason, func(t *api.Table) { t.Rules = append(t.Rules, r) })
	}
	for reason, d := range map[string]api.Drop{
		"no script": drop(0, "a", 0), "no script 5": drop(5, "n", 0), "no word": drop(plain, "", 0), "a word of another script": drop(abjad, "a", 0), "a capital letter": drop(cased, "A", 0), "13 letters": drop(plain, rep("a", 13), 0), "cost -1": drop(plain, "b", -1), "cost 1001": drop(plain, "b", 1001),
	} {
		add("drop: "+reason, func(t *api.Table) { t.Drops = append(t.Drops, d) })
		add("end: "+reason, func(t *api.Table) { t.Ends = append(t.Ends, d) })
	}
	add("a drop twice", func(t *api.Table) { t.Drops = append(t.Drops, drop(plain, "na", 7)) })
	add("an end twice", func(t *api.Table) { t.Ends = append(t.Ends, drop(plain, "a", 7)) })
	add("an end of five letters", func(t *api.Table) { t.Ends = append(t.Ends, drop(plain, "abcde", 0)) })
	for _, n := range []int{-1, 1001, math.MinInt, math.MaxInt} {
		number := strconv.Itoa(n)
		add("Drop "+number, func(t *api.Table) { t.Drop = n })
		add("Order "+number, func(t *api.Table) { t.Order = n })
		add("Initial "+number, func(t *api.Table) { t.Initial = n })
	}
	add("81 rules", func(t *api.Table) { t.Rules = append(t.Rules, numbered(81-len(t.Rules))...) })
	add("many rules", func(t *api.Table) { t.Rules = append(t.Rules, numbered(300)...) })
	add("41 drops", func(t *api.Table) { t.Drops = drops(41) })
	add("41 ends", func(t *api.Table) { t.Ends = drops(41) })
	return m
}

// numbered returns so many rules that may stand in a table.
func numbered(n int) []api.Rule {
	var l []api.Rule
	for i := range n {
		l = append(l, rule(plain, "z", string([]byte{'a' + byte(i/26), 'a' + byte(i%26)}), 1))
	}
	return l
}

// drops returns so many drops, or ends, of which a table may have 40.
func drops(n int) []api.Drop {
	var l []api.Drop
	for i := range n {
		l = append(l, drop([]int{plain, cased}[i/26], string([]byte{'a' + byte(i%26)}), 1))
	}
	return l
}

// tried are bounds, of which some are none for Make, with which the tests refuse tables and words.
var tried = []int{0, 1, 2, 3, 100000, 100001, -1, math.MinInt, math.MaxInt}

// refused fails a test if Make has another error than ErrArg for any bound, or elements beside it, or if Check finds that a certificate holds: a given one, or the empty one for a bound that is not positive.
func refused(t *testing.T, table api.Table, p pair, l []api.Potential) {
	t.Helper()
	for _, bound := range tried {
		if got, err := p.make(table, bound); len(got) > 0 || err != api.ErrArg {
			t.Errorf("Make of %v and %d is %v, %d", p, bound, got, err)
		}
		if p.check(table, bound, l) || p.check(table, bound, nil) || p.check(table, bound, []api.Potential{{H: bound}}) {
			t.Errorf("Check of %v, for %v and %d, is true", l, p, bound)
		}
	}
}

// P12.1, L1 and L2: ErrArg for a table that is not valid, for each reason; no certificate holds with it, though it would hold with the valid table.
func TestTablesThatAreNotValid(t *testing.T) {
	valid := []known{
		{pair{plain, "na", abjad, "n'"}, 3, "0 0 3; 1 0 n 3; 1 1 1; 2 1 a 1", api.OK}, {pair{cased, "AA'", cased, "a'A"}, 2, "0 0 2; 1 0 a 2; 1 1 >a 1", api.OK}, {pair{plain, "a", syllab, "na"}, 100000, "0 0 100000; 1 0 a 100000", api.OK},
	}
	checkKnown(t, scripts(), valid)
	for reason, table := range invalid() {
		if rewrite.Valid(table) {
			t.Errorf("a table is valid: %s", reason)
		}
		for _, one := range valid {
			refused(t, table, one.pair, list(one.want))
		}
		// What is no word.
		for _, p := range []pair{{plain, "", plain, ""}, {0, "a", 5, "a"}, {cased, "a b", cased, "a"}} {
			refused(t, table, p, nil)
		}
		if t.Failed() {
			t.Fatalf("with a table that is not valid: %s", reason)
		}
	}
	// As many rows as there may be.
	full := scripts()
	full.Rules = append(full.Rules, numbered(80-len(full.Rules))...)
	full.Drops, full.Ends = drops(40), drops(40)
	full.Drop, full.Order, full.Initial = 1000, 1000, 1000
	checkKnown(t, full, valid)
	checkKnown(t, full, []known{{pair{plain, "n", plain, "z"}, 7, "0 0 7; 1 0 n 7", api.OK}, {pair{plain, "z", plain, "aa"}, 2, "", api.ErrNone}})
}

// notWords are texts that are no words of the script.
var notWords = [][]string{
	plain:  {"", "A", "Na", "nA", "a'", "'", "n a", " n", "n ", "1", "n\x00", "\xff", "é", rep("a", 13), rep("n", 100)},
	cased:  {"", "'", "'a", "a''", "a'^", "n a", " ", "1", "A-", "é", rep("a", 13), rep("A'", 13)},
	abjad:  {"", "a", "na", "an", "N", "b^", "n n", "c", rep("'", 13), rep("n", 13)},
	syllab: {"", "k", "nk", "sta", "Na", "NA", "la", "na'", "na na", rep("n", 13), rep("na", 13), rep("a", 13)},
}

// P12.1, L1 and L2: ErrArg for what is no word of its script, on either side, whatever the other word is; no certificate holds, not even the empty one for a bound that is not positive.
func TestWordsThatAreNoWords(t *testing.T) {
	table := scripts()
	words := []pair{{a: plain, x: "na"}, {a: plain, x: "k"}, {a: cased, x: "A'n"}, {a: abjad, x: "n'"}, {a: syllab, x: rep("n", 12)}}
	l := list("0 0 3")
	refuse := func(script int, text string) {
		for _, other := range append(slices.Clone(words), pair{a: script, x: text}) {
			p := pair{script, text, other.a, other.x}
			refused(t, table, p, l)
			refused(t, table, p.swapped(), l)
		}
	}
	for _, script := range all {
		for _, text := range notWords[script] {
			refuse(script, text)
		}
	}
	for _, script := range noScripts {
		for _, text := range []string{"", "a", "n", "na", "'", "A", "A'", rep("n", 12), rep("n", 13)} {
			refuse(script, text)
		}
	}
	// Words of one script are none of another one, though it has rules for their letters.
	refused(t, table, pair{plain, "A", cased, "A"}, l)
	refused(t, table, pair{cased, "A", plain, "A"}, l)
	refused(t, table, pair{syllab, "b", plain, "b"}, l)
	checkMake(t, table, pair{cased, "B", plain, "b"}, 3, l, api.OK)
}

// P12.1, L1: ErrArg for a bound that is none, also for words without a derivation; it comes before ErrNone.
func TestBoundsThatAreNone(t *testing.T) {
	for _, bound := range []int{-1, -2, -3, -100000, -100001, -1 << 32, math.MinInt, math.MinInt + 1, 100001, 100002, 200000, 1 << 32, 1<<32 + 1, math.MaxInt, math.MaxInt - 1} {
		for _, p := range []pair{{plain, "ab", plain, "ab"}, {plain, "ab", plain, "ac"}, {plain, "a", plain, "b"}, {plain, "x", plain, "b"}} {
			checkMake(t, example(), p, bound, nil, api.ErrArg)
		}
	}
}

// P1: both functions end for long tables, words and lists, and for numbers at the limits of int.
func TestLongArguments(t *testing.T) {
	long := rep("na", 1<<22)
	rules := slices.Repeat([]api.Rule{rule(plain, "a", "a", 0)}, 1<<20)
	rows := slices.Repeat([]api.Drop{drop(plain, "a", 0)}, 1<<20)
	p := pair{plain, "a", plain, "a"}
	for _, table := range []api.Table{
		{Rules: rules}, {Rules: rules[:1], Drops: rows}, {Rules: rules[:1], Ends: rows}, tableOf(rule(plain, long, "a", 0)), tableOf(rule(plain, "a", long, 0)), tableOf(rule(syllab, long, long, 0)), tableOf(rule(math.MinInt, "a", "a", math.MaxInt)), {Rules: rules[:1], Drop: math.MinInt, Order: math.MaxInt}, {Rules: rules[:1], Ends: []api.Drop{drop(syllab, long, 0)}},
	} {
		refused(t, table, p, nil)
	}
	for _, script := range append(slices.Clone(noScripts), all...) {
		for _, word := range []string{long, "n" + long, rep("'", 1<<22), rep("\x80", 1<<20), rep("A'", 1<<20)} {
			refused(t, scripts(), pair{script, word, plain, "na"}, nil)
			refused(t, scripts(), pair{plain, "na", script, word}, nil)
		}
	}
	ab := pair{plain, "a", plain, "b"}
	for _, one := range []api.Potential{
		{}, {H: 1}, {I: math.MaxInt, J: math.MinInt, H: 1}, {I: 1, J: 1, Ahead: "zzz", H: math.MaxInt}, {Ahead: long, Right: true, H: 1}, {H: math.MinInt},
	} {
		for _, bound := range []int{1, 100000, 0, -1, math.MaxInt, math.MinInt} {
			if l := slices.Repeat([]api.Potential{one}, 1<<18); ab.check(example(), bound, l) {
				t.Errorf("%d times %v hold for %d", len(l), one.H, bound)
			}
		}
	}
	// All states of two words with a text of three letters ahead that no rule can go on with.
	var states []api.Potential
	for i := range 2 {
		for j := range 2 {
			for n := range 24 * 26 * 26 {
				text := string([]byte{'c' + byte(n/676), 'a' + byte(n/26%26), 'a' + byte(n%26)})
				states = append(states, api.Potential{I: i, J: j, Ahead: text, H: 5}, api.Potential{I: i, J: j, Ahead: text, Right: true, H: 5})
			}
		}
	}
	states = with(with(states, api.Potential{H: 5}), api.Potential{I: 1, Ahead: "a", H: 5})
	if !ab.check(example(), 5, states) || ab.check(example(), 6, states) || ab.check(example(), 5, states[1:]) || ab.check(example(), 5, append(states, states[len(states)-1])) {
		t.Errorf("%d elements do not hold, or hold for another bound, without the begin, or with the last one twice", len(states))
	}
	checkMake(t, example(), p, 0, nil, api.OK)
}
