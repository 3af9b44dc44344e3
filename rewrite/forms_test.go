package rewrite_test

import (
	"maps"
	"math"
	"math/rand/v2"
	"slices"
	"strings"
	"testing"

	"customhouse/api"
	"customhouse/rewrite"
)

// ways returns a table with rules that turn each letter of a script into as many different single letters, in which the rule k of a letter costs k times cost.
func ways(script int, cost int, counts map[string]int) api.Table {
	var t api.Table
	for _, letter := range slices.Sorted(maps.Keys(counts)) {
		for k := range counts[letter] {
			t.Rules = append(t.Rules, rule(script, letter, string(rune('a'+k)), k*cost))
		}
	}
	return t
}

// forms returns what Forms returns for a word, and fails a test if there is an error.
func forms(t *testing.T, table api.Table, script int, word string, most int) map[string]int {
	t.Helper()
	l, costs, err := rewrite.Forms(table, script, word, most)
	if err != api.OK || len(l) != len(costs) {
		t.Fatalf("Forms of %q in %d, at most %d, has %d forms, %d costs, error %d", word, script, most, len(l), len(costs), err)
	}
	m := map[string]int{}
	for i, form := range l {
		m[form] = costs[i]
	}
	return m
}

// P10.1, J2: the chapter's examples, and other forms that are known.
func TestFormsOfKnownWords(t *testing.T) {
	long := api.Table{Rules: []api.Rule{
		rule(cased, "a'", "a", 1), rule(cased, "a'n^", "x", 2), rule(cased, "a'n^o`", "xyz", 3), rule(cased, "a", "b", 0), rule(cased, "n", "n", 0), rule(cased, "n^", "m", 1), rule(cased, "o`", "", 5), rule(cased, "o", "o", 0),
		rule(syllab, "na", "l", 0), rule(syllab, "n", "n", 0), rule(syllab, "a", "a", 0), rule(syllab, "nka", "x", 1), rule(syllab, "kakika", "", 1), rule(syllab, "ka", "k", 0), rule(syllab, "ki", "ci", 1), rule(syllab, "ana", "y", 9),
		rule(abjad, "'", "", 2), rule(abjad, "b'", "ba", 1), rule(abjad, "b", "b", 0), rule(abjad, "'b'", "obo", 4),
	}}
	pairs := api.Table{Rules: []api.Rule{rule(plain, "aa", "b", 1), rule(plain, "bab", "c", 1)}}
	same := api.Table{Rules: []api.Rule{rule(plain, "a", "x", 1), rule(plain, "aa", "xx", 2), rule(plain, "b", "x", 1), rule(plain, "bb", "xx", 5), rule(plain, "c", "x", 1), rule(plain, "cc", "xx", 1), rule(plain, "d", "", 0), rule(plain, "d", "x", 0), rule(plain, "dd", "xx", 1000), rule(plain, "ab", "xx", 0)}}
	for _, test := range []struct {
		table  api.Table
		script int
		word   string
		most   int
		want   map[string]int
	}{
		{example(), plain, "anna", 5, map[string]int{"ana": 1, "anna": 0}}, {example(), plain, "anna", 0, map[string]int{"anna": 0}}, {example(), plain, "anna", -1, nil}, {example(), plain, "tha", 9, map[string]int{"ta": 2, "tha": 0}}, {example(), plain, "bab", 9, nil},
		{example(), plain, "anna", 1, map[string]int{"ana": 1, "anna": 0}}, {example(), plain, "anna", math.MaxInt, map[string]int{"ana": 1, "anna": 0}}, {example(), plain, "anna", math.MinInt, nil}, {example(), plain, "tha", 1, map[string]int{"tha": 0}}, {example(), plain, "tha", 2, map[string]int{"ta": 2, "tha": 0}},
		{example(), plain, "nnnn", 9, map[string]int{"nn": 2, "nnn": 1, "nnnn": 0}}, {example(), plain, "nnnn", 1, map[string]int{"nnn": 1, "nnnn": 0}}, {example(), plain, "nnnnn", 9, map[string]int{"nnn": 2, "nnnn": 1, "nnnnn": 0}}, {example(), plain, "thth", 9, map[string]int{"tt": 4, "tht": 2, "tth": 2, "thth": 0}}, {example(), plain, "thth", 3, map[string]int{"tht": 2, "tth": 2, "thth": 0}},
		{example(), plain, "b", 9, nil}, {example(), plain, "ab", 9, nil}, {example(), plain, "ba", 9, nil}, {example(), plain, "aba", 9, nil}, {example(), plain, "annahtannahb", 99, nil}, {example(), plain, "bannahtannah", 99, nil},
		// The rules of the chapter are those of the plain script alone.
		{example(), cased, "anna", 9, nil}, {example(), abjad, "nn", 9, nil}, {example(), syllab, "na", 9, nil},
		// Letters of two bytes, and rules of one to three letters.
		{long, cased, "a'n^o`", 99, map[string]int{"xyz": 3, "x": 7, "am": 7}}, {long, cased, "a'n^o`", 6, map[string]int{"xyz": 3}}, {long, cased, "a'n^o`", 2, nil}, {long, cased, "A'N^O`", 99, map[string]int{"xyz": 3, "x": 7, "am": 7}}, {long, cased, "ano", 99, map[string]int{"bno": 0}}, {long, cased, "AnO", 0, map[string]int{"bno": 0}}, {long, cased, "a'n", 99, map[string]int{"an": 1}}, {long, cased, "an^", 99, map[string]int{"bm": 1}}, {long, cased, "a'n^o", 99, map[string]int{"xo": 2, "amo": 2}}, {long, cased, "a^", 99, nil}, {long, cased, "a`n^", 99, nil}, {long, cased, "o`o`", 99, map[string]int{"": 10}}, {long, cased, "o`o`", 9, nil}, {long, cased, "o'", 99, nil},
		{long, syllab, "na", 9, map[string]int{"l": 0}}, {long, syllab, "nana", 9, map[string]int{"ll": 0}}, {long, syllab, "nna", 9, map[string]int{"nl": 0}}, {long, syllab, "ana", 9, map[string]int{"al": 0, "y": 9}}, {long, syllab, "an", 9, map[string]int{"an": 0}}, {long, syllab, "kana", 9, map[string]int{"kl": 0}}, {long, syllab, "kan", 9, map[string]int{"kn": 0}}, {long, syllab, "nka", 9, map[string]int{"nk": 0, "x": 1}}, {long, syllab, "kakika", 9, map[string]int{"": 1, "kcik": 1}}, {long, syllab, "kakikaki", 1, nil}, {long, syllab, "kakikaki", 2, map[string]int{"ci": 2, "kcikci": 2}}, {long, syllab, "ni", 9, nil}, {long, syllab, "nanka", 9, map[string]int{"lnk": 0, "lx": 1}},
		{long, abjad, "'b'", 9, map[string]int{"obo": 4, "b": 4, "ba": 3}}, {long, abjad, "b''", 9, map[string]int{"ba": 3, "b": 4}}, {long, abjad, "'", 1, nil}, {long, abjad, "'", 2, map[string]int{"": 2}}, {long, abjad, "'''", 6, map[string]int{"": 6}}, {long, abjad, "b", 0, map[string]int{"b": 0}}, {long, abjad, "d", 9, nil},
		// Words that rules of more than one letter cover, or do not.
		{pairs, plain, "a", 9, nil}, {pairs, plain, "aa", 9, map[string]int{"b": 1}}, {pairs, plain, "aaa", 9, nil}, {pairs, plain, "aaaa", 9, map[string]int{"bb": 2}}, {pairs, plain, "bab", 9, map[string]int{"c": 1}}, {pairs, plain, "ba", 9, nil}, {pairs, plain, "babaa", 9, map[string]int{"cb": 2}}, {pairs, plain, "aabab", 9, map[string]int{"bc": 2}}, {pairs, plain, "baab", 9, nil}, {pairs, plain, "aaaaaaaaaaaa", 9, map[string]int{"bbbbbb": 6}}, {pairs, plain, "aaaaaaaaaaa", 9, nil},
		// Forms that several rewritings have, with the same and with different costs.
		{same, plain, "aa", 9, map[string]int{"xx": 2}}, {same, plain, "aa", 1, nil}, {same, plain, "bb", 9, map[string]int{"xx": 2}}, {same, plain, "bb", 2, map[string]int{"xx": 2}}, {same, plain, "cc", 9, map[string]int{"xx": 1}}, {same, plain, "cc", 0, nil}, {same, plain, "ab", 0, map[string]int{"xx": 0}}, {same, plain, "ccc", 9, map[string]int{"xxx": 2}}, {same, plain, "aaaa", 9, map[string]int{"xxxx": 4}}, {same, plain, "dd", 9, map[string]int{"": 0, "x": 0, "xx": 0}}, {same, plain, "dcd", 9, map[string]int{"x": 1, "xx": 1, "xxx": 1}}, {same, plain, "dab", 9, map[string]int{"xx": 0, "xxx": 0}},
		// One rule, and the limits of rules.
		{single(), plain, "a", 7, map[string]int{"b": 7}}, {single(), plain, "a", 6, nil}, {single(), plain, "aaaaaaaaaaaa", 84, map[string]int{"bbbbbbbbbbbb": 84}}, {single(), plain, "aaaaaaaaaaaa", 83, nil}, {single(), plain, "b", 99, nil},
	} {
		checkForms(t, test.table, test.script, test.word, test.most, test.want, api.OK)
	}
}

// P10.1, J2: rules of the greatest cost add up.
func TestFormsOfDearRules(t *testing.T) {
	table := api.Table{Rules: []api.Rule{rule(plain, "a", "xyz", 1000), rule(plain, "aaa", "", 1000), rule(plain, "b", "", 0)}}
	checkForms(t, table, plain, "aaaaaaaaaaaa", 3999, nil, api.OK)
	checkForms(t, table, plain, "aaaaaaaaaaaa", 4000, map[string]int{"": 4000}, api.OK)
	checkForms(t, table, plain, "aaaaaaaaaaaa", 5999, map[string]int{"": 4000}, api.OK)
	checkForms(t, table, plain, "aaaaaaaaaaaa", 6000, map[string]int{"": 4000, rep("xyz", 3): 6000}, api.OK)
	all := map[string]int{"": 4000, rep("xyz", 3): 6000, rep("xyz", 6): 8000, rep("xyz", 9): 10000, rep("xyz", 12): 12000}
	for _, most := range []int{12000, 12001, 100000, math.MaxInt - 12000, math.MaxInt - 1, math.MaxInt} {
		checkForms(t, table, plain, "aaaaaaaaaaaa", most, all, api.OK)
	}
	delete(all, rep("xyz", 12))
	checkForms(t, table, plain, "aaaaaaaaaaaa", 11999, all, api.OK)
	checkForms(t, table, plain, "bbbbbbbbbbbb", 0, map[string]int{"": 0}, api.OK)
	for _, most := range []int{-1, -12000, math.MinInt, math.MinInt + 1, math.MinInt + 12000} {
		checkForms(t, table, plain, "bbbbbbbbbbbb", most, nil, api.OK)
	}
}

// P10.1, J2: forms are in increasing order, compared byte by byte.
func TestTheOrderOfForms(t *testing.T) {
	table := api.Table{Rules: []api.Rule{rule(plain, "a", "b", 3), rule(plain, "a", "", 9), rule(plain, "a", "aa", 0), rule(plain, "a", "ab", 7), rule(plain, "a", "z", 1), rule(plain, "a", "aaa", 4), rule(plain, "a", "ba", 5), rule(plain, "a", "a", 8)}}
	forms, costs, err := rewrite.Forms(table, plain, "a", 9)
	if !slices.Equal(forms, []string{"", "a", "aa", "aaa", "ab", "b", "ba", "z"}) || !slices.Equal(costs, []int{9, 8, 0, 4, 7, 3, 5, 1}) || err != api.OK {
		t.Fatalf("Forms is %q, %v, %d", forms, costs, err)
	}
}

// P10.1, J2: 1000 forms are returned, and 1001 are too many, in every script, and with bounds.
func TestTheNumberOfForms(t *testing.T) {
	for _, test := range []struct {
		script int
		a      [3]string
	}{{plain, [3]string{"a", "b", "c"}}, {cased, [3]string{"a'", "a", "a^"}}, {abjad, [3]string{"'", "b", "d"}}, {syllab, [3]string{"ka", "a", "n"}}} {
		word := test.a[0] + test.a[1] + test.a[2]
		for _, counts := range []struct{ a, b, c, cost, most, want int }{
			{10, 10, 10, 0, 0, 1000}, {7, 11, 13, 0, 0, 0}, {20, 25, 2, 0, 0, 1000}, {1, 40, 25, 0, 0, 1000}, {40, 25, 1, 0, 0, 1000}, {25, 1, 40, 1, 99, 1000}, {13, 11, 7, 1, 99, 0}, {7, 13, 11, 0, 0, 0}, {9, 11, 10, 0, 0, 990}, {1, 26, 26, 0, 0, 676}, {26, 26, 2, 0, 5, 0}, {26, 1, 38, 0, 5, 988}, {26, 39, 1, 0, 5, 0},
			// 7 and 11 and 13 letters with costs of 0 to 6, 10 and 12: all but one of the 1001 forms cost at most 27.
			{7, 11, 13, 1, 27, 1000}, {7, 11, 13, 1, 28, 0}, {7, 11, 13, 1, 26, 997}, {13, 7, 11, 1, 27, 1000}, {7, 11, 13, 1, 0, 1}, {7, 11, 13, 1, -1, 0},
		} {
			table := api.Table{}
			for i, n := range []int{counts.a, counts.b, counts.c} {
				for k := range n {
					table.Rules = append(table.Rules, rule(test.script, test.a[i], string([]byte{'a' + byte(k/26), 'a' + byte(k%26)}), k*counts.cost))
				}
			}
			got, costs, err := rewrite.Forms(table, test.script, word, counts.most)
			wantErr := api.OK
			if counts.want == 0 && counts.most >= 0 {
				wantErr = api.ErrLimit
			}
			if len(got) != counts.want || len(costs) != counts.want || err != wantErr {
				t.Errorf("Forms of %q with %v: %d forms, %d costs, error %d", word, counts, len(got), len(costs), err)
			}
			want, _ := wantedForms(table, test.script, word, counts.most)
			checkForms(t, table, test.script, word, counts.most, want, wantErr)
		}
	}
}

// P10.1, J2: what matters is the number of forms, and not that of rewritings, or of forms of the first or the last letters.
func TestManyRewritingsOfFewForms(t *testing.T) {
	// 3 to the power of 12 rewritings have 25 forms.
	table := api.Table{Rules: []api.Rule{rule(plain, "a", "", 1), rule(plain, "a", "x", 2), rule(plain, "a", "xx", 0), rule(plain, "aa", "x", 3), rule(plain, "aaa", "xxx", 1)}}
	got := forms(t, table, plain, rep("a", 12), math.MaxInt)
	if len(got) != 25 || got[rep("x", 24)] != 0 || got[""] != 12 {
		t.Errorf("12 letters have %d forms: %v", len(got), got)
	}
	// The letters before the last one have 2048 forms, and those behind the first one too.
	two := api.Table{Rules: []api.Rule{rule(plain, "a", "a", 0), rule(plain, "a", "b", 1)}}
	for _, word := range []string{rep("a", 11) + "z", "z" + rep("a", 11), rep("a", 5) + "z" + rep("a", 6)} {
		checkForms(t, two, plain, word, 99, nil, api.OK)
		dear := two
		dear.Rules = append(slices.Clone(two.Rules), rule(plain, "z", "z", 1000))
		checkForms(t, dear, plain, word, 999, nil, api.OK)
		checkForms(t, dear, plain, word, 1000, map[string]int{strings.ReplaceAll(word, "z", "z"): 1000}, api.OK)
		if got := forms(t, dear, plain, word, 1001); len(got) != 12 {
			t.Errorf("%q has %d forms", word, len(got))
		}
		if got := forms(t, dear, plain, word, 1004); len(got) != 1+11+55+165+330 {
			t.Errorf("%q has %d forms", word, len(got))
		}
		checkForms(t, dear, plain, word, 1005, nil, api.ErrLimit)
		checkForms(t, dear, plain, word, math.MaxInt, nil, api.ErrLimit)
	}
	// A letter that is dropped at the end makes 1024 beginnings to as many forms, and one that only a longer rule covers makes them to none.
	ends := api.Table{Rules: append(slices.Clone(two.Rules), rule(plain, "c", "", 0), rule(plain, "acd", "", 0))}
	checkForms(t, ends, plain, rep("a", 10)+"c", 99, nil, api.ErrLimit)
	checkForms(t, ends, plain, rep("a", 9)+"c", 0, map[string]int{rep("a", 9): 0}, api.OK)
	if got := forms(t, ends, plain, rep("a", 9)+"c", 99); len(got) != 512 {
		t.Errorf("9 letters have %d forms", len(got))
	}
	if got := forms(t, ends, plain, rep("a", 10)+"cd", 99); len(got) != 512 {
		t.Errorf("9 letters have %d forms", len(got))
	}
	checkForms(t, ends, plain, rep("a", 11)+"d", 99, nil, api.OK)
}

// P10.1, J2: 80 rules for one letter, and a word of 12 letters.
func TestFormsOfManyRules(t *testing.T) {
	table := ways(plain, 1, map[string]int{"a": 26})
	for i := range 26 {
		table.Rules = append(table.Rules, rule(plain, "aa", string(rune('a'+i)), 0), rule(plain, "aaa", string(rune('a'+i)), 0))
	}
	table.Rules = append(table.Rules, rule(plain, "z", "z", 0), rule(plain, "zz", "z", 0))
	if len(table.Rules) != 80 || !rewrite.Valid(table) {
		t.Fatal("the table of the test is not valid")
	}
	checkForms(t, table, plain, rep("a", 12), math.MaxInt, nil, api.ErrLimit)
	checkForms(t, table, plain, rep("a", 12), 0, nil, api.ErrLimit)
	checkForms(t, table, plain, rep("a", 12), -1, nil, api.OK)
	checkForms(t, table, plain, rep("a", 11)+"b", math.MaxInt, nil, api.OK)
	checkForms(t, table, plain, rep("a", 11)+"B", math.MaxInt, nil, api.ErrArg)
	if got := forms(t, table, plain, "aa", 0); len(got) != 27 {
		t.Errorf("two letters have %d forms", len(got))
	}
	for _, most := range []int{0, 1, 25, 26, 50, 99} {
		want, err := wantedForms(table, plain, "aaz", most)
		checkForms(t, table, plain, "aaz", most, want, err)
	}
}

// P10.1, J2: what is no word of the script.
func TestFormsOfNoWords(t *testing.T) {
	for script, words := range [][]string{
		plain:  {"", "A", "Anna", "annA", "a'", "a b", " a", "a ", "1", rep("a", 13), "\u00e9", "a\x00"},
		cased:  {"", "'a", "a''", "a b", rep("a", 13), rep("A'", 13), "1", "\u00e9"},
		abjad:  {"", "a", "ba", "B", "N", rep("b", 13), "b n", "c"},
		syllab: {"", "k", "sta", "Na", "NA", rep("n", 13), rep("na", 13), "na na", "l"},
	} {
		for _, word := range words {
			if !slices.Contains(all, script) {
				continue
			}
			for _, table := range []api.Table{example(), mixed(), single(), full()} {
				for _, most := range []int{-1, 0, 9, math.MaxInt} {
					checkForms(t, table, script, word, most, nil, api.ErrArg)
				}
				checkVariants(t, table, script, word)
			}
		}
	}
	for _, script := range noScripts {
		for _, word := range []string{"", "a", "n", "na", "'", "A", rep("a", 13)} {
			checkForms(t, mixed(), script, word, 9, nil, api.ErrArg)
			checkVariants(t, mixed(), script, word)
		}
	}
}

// P10.1, J2: Forms agrees with walking through all rewritings.
func TestFormsAgreeWithAllRewritings(t *testing.T) {
	r := rand.New(rand.NewPCG(10, 3))
	counts := map[bool]int{}
	for range 4000 {
		table := randomTable(r, pick(r, []int{8, 20, 40}))
		script := pick(r, append(all, table.Rules[0].Script, table.Rules[0].Script))
		word := raised(r, script, randomWord(r, script, 6))
		for _, most := range []int{-1, 0, 1, 2, 5, 20, 1000, 1003, 3000, math.MaxInt} {
			want, err := wantedForms(table, script, word, most)
			checkForms(t, table, script, word, most, want, err)
			counts[len(want) > 1]++
		}
	}
	if min(counts[true], counts[false]) < 5000 {
		t.Fatalf("the words have more than one form or not: %v", counts)
	}
}

// someForms calls a function with words of tables, with all of their forms, as long as these are not too many.
func someForms(t *testing.T, n int, f func(table api.Table, script int, word string, found map[string]int)) {
	t.Helper()
	r := rand.New(rand.NewPCG(10, 4))
	many := 0
	for range n {
		table := randomTable(r, pick(r, []int{10, 30, 60, 80}))
		script := pick(r, append(all, table.Rules[0].Script, table.Rules[0].Script))
		word := randomWord(r, script, 12)
		if _, _, err := rewrite.Forms(table, script, word, math.MaxInt); err == api.ErrLimit {
			continue
		}
		found := forms(t, table, script, word, math.MaxInt)
		f(table, script, word, found)
		if len(found) > 20 {
			many++
		}
	}
	if many < n/10 {
		t.Fatalf("only %d words have many forms", many)
	}
}

// P10.2: each rewriting has a form that Forms returns, with a cost that is not greater, and as long as the bound is not less than its own cost.
func TestRewritingsHaveTheirForms(t *testing.T) {
	r := rand.New(rand.NewPCG(10, 5))
	someForms(t, 1500, func(table api.Table, script int, word string, found map[string]int) {
		for range 5 {
			form, cost, ok := randomRewriting(r, table, script, divided(script, word))
			if !ok {
				continue
			}
			if least, ok := found[form]; !ok || least > cost {
				t.Fatalf("%q has a rewriting to %q at the cost %d, and Forms has it at %d (%t)", word, form, cost, least, ok)
			}
			if bounded := forms(t, table, script, word, cost); bounded[form] != found[form] {
				t.Fatalf("%q, at most %d, has %q at the cost %d, not %d", word, cost, form, bounded[form], found[form])
			}
		}
	})
}

// randomRewriting returns the form and the cost of a rewriting of a word with these letters, and false if it ran into a place that no rule covers.
func randomRewriting(r *rand.Rand, table api.Table, script int, letters []string) (string, int, bool) {
	form, cost := "", 0
	for len(letters) > 0 {
		var fit []api.Rule
		for _, one := range table.Rules {
			from := divided(script, one.From)
			if one.Script == script && len(from) <= len(letters) && slices.Equal(from, letters[:len(from)]) {
				fit = append(fit, one)
			}
		}
		if len(fit) == 0 {
			return "", 0, false
		}
		one := pick(r, fit)
		form, cost, letters = form+one.To, cost+one.Cost, letters[len(divided(script, one.From)):]
	}
	return form, cost, true
}

// P10.2: each form is that of a rewriting with its cost, and of none that costs less; and forms with a letter more or less are those of rewritings only if they are returned too.
func TestFormsHaveRewritings(t *testing.T) {
	someForms(t, 800, func(table api.Table, script int, word string, found map[string]int) {
		letters := divided(script, word)
		checked := 0
		for form, cost := range found {
			if least, ok := leastCost(table, script, letters, form); !ok || least != cost {
				t.Fatalf("Forms of %q has %q at the cost %d, not %d (%t)", word, form, cost, least, ok)
			}
			for _, other := range []string{form + "a", "b" + form, form[:max(0, len(form)-1)]} {
				least, ok := leastCost(table, script, letters, other)
				if cost, has := found[other]; has != ok || ok && cost != least {
					t.Fatalf("Forms of %q has %q at the cost %d (%t), not %d (%t)", word, other, cost, has, least, ok)
				}
			}
			if checked++; checked == 20 {
				break
			}
		}
	})
}

// P10.3: a greater bound has the same forms with the same costs, and further ones that cost more than the lesser bound; a negative bound has none.
func TestBoundsOfForms(t *testing.T) {
	someForms(t, 700, func(table api.Table, script int, word string, found map[string]int) {
		bounds := []int{0, 1, 2, math.MaxInt}
		for _, cost := range found {
			bounds = append(bounds, cost-1, cost, cost+1)
			if len(bounds) > 20 {
				break
			}
		}
		slices.Sort(bounds)
		for _, most := range slices.Compact(bounds) {
			want := maps.Clone(found)
			maps.DeleteFunc(want, func(_ string, cost int) bool { return cost > most })
			checkForms(t, table, script, word, most, want, api.OK)
		}
		for _, most := range []int{-1, -2, -1000, math.MinInt} {
			checkForms(t, table, script, word, most, nil, api.OK)
		}
	})
}

// P10.3: bounds just below a cost that is a sum, and equal to it.
func TestBoundsJustBelow(t *testing.T) {
	table := api.Table{Rules: []api.Rule{rule(plain, "a", "a", 3), rule(plain, "b", "b", 5), rule(plain, "ab", "c", 7), rule(plain, "a", "", 10)}}
	for most, want := range map[int]map[string]int{6: nil, 7: {"c": 7}, 8: {"c": 7, "ab": 8}, 14: {"c": 7, "ab": 8}, 15: {"c": 7, "ab": 8, "b": 15}} {
		checkForms(t, table, plain, "ab", most, want, api.OK)
	}
}

// P10.4: the order of rules makes no difference.
func TestTheOrderOfRules(t *testing.T) {
	r := rand.New(rand.NewPCG(10, 6))
	someForms(t, 700, func(table api.Table, script int, word string, found map[string]int) {
		for range 5 {
			other := cloned(table)
			other.Rules = shuffled(r, table.Rules)
			checkForms(t, other, script, word, math.MaxInt, found, api.OK)
		}
		backwards := cloned(table)
		slices.Reverse(backwards.Rules)
		checkForms(t, backwards, script, word, math.MaxInt, found, api.OK)
	})
}

// P10.4: with a further rule no form is lost, and none costs more.
func TestFurtherRules(t *testing.T) {
	r := rand.New(rand.NewPCG(10, 7))
	more, less := 0, 0
	someForms(t, 1500, func(table api.Table, script int, word string, found map[string]int) {
		for range 4 {
			other := cloned(table)
			other.Rules = slices.Insert(other.Rules, r.IntN(len(other.Rules)+1), randomRule(r, script))
			if _, _, err := rewrite.Forms(other, script, word, math.MaxInt); err != api.OK {
				continue
			}
			got := forms(t, other, script, word, math.MaxInt)
			for form, cost := range found {
				now, ok := got[form]
				if !ok || now > cost {
					t.Fatalf("Forms of %q has %q at the cost %d, and with a further rule at %d (%t)", word, form, cost, now, ok)
				}
				if now < cost {
					less++
				}
			}
			if len(got) > len(found) {
				more++
			}
		}
	})
	if more < 100 || less < 100 {
		t.Fatalf("further rules made %d times more forms, and %d forms cheaper", more, less)
	}
}

// P10.5: a word and the folded word have the same forms.
func TestFormsOfFoldedWords(t *testing.T) {
	r := rand.New(rand.NewPCG(10, 8))
	found := 0
	for range 3000 {
		table := randomTable(r, 40)
		if table.Rules[0].Script != cased {
			continue
		}
		word := randomWord(r, cased, 6)
		if _, _, err := rewrite.Forms(table, cased, word, 50); err != api.OK {
			continue
		}
		want := forms(t, table, cased, word, 50)
		found += len(want)
		checkForms(t, table, cased, strings.ToUpper(word), 50, want, api.OK)
		checkForms(t, table, cased, raised(r, cased, word), 50, want, api.OK)
	}
	if found < 1000 {
		t.Fatalf("the words have only %d forms", found)
	}
	table := api.Table{Rules: []api.Rule{rule(cased, "x", "a", 0), rule(cased, "x'", "b", 1), rule(cased, "z`", "c", 2), rule(cased, "xz`", "d", 1)}}
	for _, word := range []string{"xz`", "Xz`", "xZ`", "XZ`"} {
		checkForms(t, table, cased, word, 9, map[string]int{"ac": 2, "d": 1}, api.OK)
	}
	for _, word := range []string{"x'z`", "X'Z`"} {
		checkForms(t, table, cased, word, 9, map[string]int{"bc": 3}, api.OK)
	}
}

// P10.8: rules of other scripts make no difference for forms, at whatever places they are.
func TestRulesOfOtherScripts(t *testing.T) {
	r := rand.New(rand.NewPCG(10, 9))
	// The four rules would all fit if their scripts made no difference.
	table := api.Table{Rules: []api.Rule{rule(plain, "na", "p", 4), rule(cased, "na", "c", 3), rule(syllab, "na", "s", 2), rule(abjad, "n", "a", 1)}}
	checkForms(t, table, plain, "na", 9, map[string]int{"p": 4}, api.OK)
	checkForms(t, table, cased, "na", 9, map[string]int{"c": 3}, api.OK)
	checkForms(t, table, syllab, "na", 9, map[string]int{"s": 2}, api.OK)
	checkForms(t, table, syllab, "nna", 9, nil, api.OK)
	checkForms(t, table, abjad, "nn", 9, map[string]int{"aa": 2}, api.OK)
	checked := 0
	someForms(t, 900, func(table api.Table, script int, word string, found map[string]int) {
		own := cloned(table)
		own.Rules = slices.DeleteFunc(own.Rules, func(o api.Rule) bool { return o.Script != script })
		own.Drops, own.Ends = nil, nil
		if len(own.Rules) == 0 {
			return
		}
		checked++
		checkForms(t, own, script, word, math.MaxInt, found, api.OK)
		// What had another script becomes that of a third one.
		other := cloned(own)
		for _, foreign := range all {
			if foreign != script && len(other.Rules) < 78 {
				other.Rules = slices.Insert(other.Rules, r.IntN(len(other.Rules)+1), rule(foreign, "n", "zzz", 0))
			}
		}
		checkForms(t, other, script, word, math.MaxInt, found, api.OK)
	})
	if checked < 500 {
		t.Fatalf("only %d tables have rules of the script", checked)
	}
}
