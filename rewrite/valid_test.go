package rewrite_test

import (
	"math"
	"math/rand/v2"
	"slices"
	"testing"

	"customhouse/api"
	"customhouse/rewrite"
)

// goodRules may stand in a table, at the limits of what is allowed.
func goodRules() []api.Rule {
	return []api.Rule{
		rule(plain, "z", "z", 0), rule(plain, "xyz", "xyz", 1000), rule(plain, "q", "", 1), rule(plain, "to", "to", 999), rule(plain, "z", "aaa", 0),
		rule(cased, "z", "z", 0), rule(cased, "x'y`z^", "abc", 1000), rule(cased, "x'", "", 0), rule(cased, "xyz", "zzz", 5), rule(cased, "z^", "z", 0), rule(cased, "x`y", "q", 0),
		rule(abjad, "'", "a", 0), rule(abjad, "'''", "", 1000), rule(abjad, "z'z", "aei", 7), rule(abjad, "bdf", "o", 0),
		rule(syllab, "o", "o", 0), rule(syllab, "pakiku", "ppp", 1000), rule(syllab, "nnn", "n", 0), rule(syllab, "ana", "", 3), rule(syllab, "nnno", "no", 3), rule(syllab, "aio", "q", 0),
	}
}

// badRules may stand in no table.
func badRules() []api.Rule {
	var l []api.Rule
	for _, script := range noScripts {
		l = append(l, rule(script, "a", "a", 0), rule(script, "n", "n", 1), rule(script, "", "", 0))
	}
	for script, froms := range [][]string{
		plain:  {"", "A", "aB", "abcd", "aaaa", "abcdefghijklm", "a'", "'", " ", " a", "a ", "a b", "1", "a1", "\u00e9", "a\x00", "\n", "na\xff", "a_", "\""},
		cased:  {"", "A", "aB", "abC", "A'", "a'B^", "Z", "abcd", "a'b`c^d", "a'b`c^d'", "'", "'a", "a''", "a'`", "a-", "a b", "a'^", "\u00e9", "ab\"", "@", "["},
		abjad:  {"", "a", "ba", "e", "c", "v", "B", "b'B", "bdfg", "''''", "'b'd", "b ", " ", "b`", "b^", "i"},
		syllab: {"", "k", "s", "sta", "kk", "nk", "ak", "la", "Na", "nA", "A", "N", "nananana", "nnnn", "aiue", "nnnna", "akaka\x00", "na'", "kin ", "na na", "c"},
	} {
		for _, from := range froms {
			l = append(l, rule(script, from, "a", 0))
		}
	}
	for _, to := range []string{"abcd", "aaaa", "abcdefghijkl", "A", "aB", "Z", "abC", "a'", "'", " ", "a ", " a", "1", "a1", "_", "`", "{", "@", "[", "\x00", "\x7f", "\xff", "a\x80", "\u00e9", "a\u00e9", "\n", "\"", ";", "a-b"} {
		l = append(l, rule(plain, "z", to, 0), rule(cased, "z", to, 0), rule(abjad, "z", to, 0), rule(syllab, "o", to, 0))
	}
	for _, cost := range noCosts {
		l = append(l, rule(plain, "z", "z", cost), rule(cased, "z'", "", cost), rule(abjad, "'", "z", cost), rule(syllab, "zo", "z", cost))
	}
	return l
}

// goodDrops may stand among drops or ends of at most so many letters.
func goodDrops(letters int) []api.Drop {
	return []api.Drop{
		drop(plain, "z", 0), drop(plain, rep("z", letters), 1000), drop(plain, "to", 1), drop(cased, "z", 0), drop(cased, "z`", 1), drop(cased, rep("z", letters), 1000), drop(cased, rep("z'", letters), 1000),
		drop(abjad, "'", 0), drop(abjad, rep("'", letters), 1000), drop(abjad, rep("b'", letters/2), 2), drop(syllab, "o", 0), drop(syllab, rep("n", letters), 1000), drop(syllab, rep("pa", letters), 999), drop(syllab, rep("n", letters)+"o", 1),
	}
}

// badDrops may not stand among drops or ends of at most so many letters.
func badDrops(letters int) []api.Drop {
	var l []api.Drop
	for _, script := range noScripts {
		l = append(l, drop(script, "a", 0), drop(script, "n", 1), drop(script, "", 0))
	}
	for script, words := range [][]string{
		plain:  {"", "Z", "zA", rep("z", letters+1), rep("z", 13), "z'", " ", "z ", "z z", "1", "\u00e9", "z\x00", "\n", "\""},
		cased:  {"", "Z", "zA", "z'Z", "Al", rep("z", letters+1), rep("z'", letters+1), rep("z^", letters) + "z", "'", "'z", "z''", "z-", "z z", "\u00e9"},
		abjad:  {"", "a", "ba", "B", "e", "b^", rep("'", letters+1), rep("b", letters+1), "b ", "al"},
		syllab: {"", "k", "sta", "Na", "la", rep("n", letters+1), rep("na", letters+1), rep("n", letters+1) + "a", "na ", "na'", "al"},
	} {
		for _, word := range words {
			l = append(l, drop(script, word, 0))
		}
	}
	for _, cost := range noCosts {
		l = append(l, drop(plain, "z", cost), drop(cased, "z^", cost), drop(abjad, "'", cost), drop(syllab, "zo", cost))
	}
	return l
}

// numbered returns a table with so many rules, drops and ends, of any scripts.
func numbered(rules, drops, ends int) api.Table {
	t := api.Table{}
	for i := range rules {
		script := all[i%4]
		t.Rules = append(t.Rules, rule(script, "n", string([]byte{'a' + byte(i/26), 'a' + byte(i%26)}), i))
	}
	words := func(n int) []api.Drop {
		var l []api.Drop
		for i := range n {
			letter := string("bdfghjklmnpqrstwxyz"[i%19])
			l = append(l, drop([]int{plain, cased, abjad}[i/19%3], letter, i))
		}
		return l
	}
	t.Drops, t.Ends = words(drops), words(ends)
	return t
}

// invalidTables are tables that are not valid for one reason each.
func invalidTables() []api.Table {
	l := []api.Table{{}, {Drop: 1, Order: 1, Initial: 1}, {Drops: []api.Drop{drop(plain, "a", 0)}, Ends: []api.Drop{drop(plain, "a", 0)}}, numbered(0, 40, 40), numbered(81, 0, 0), numbered(81, 40, 40), numbered(1, 41, 0), numbered(80, 41, 40), numbered(1, 0, 41), numbered(80, 40, 41)}
	add := func(change func(*api.Table)) {
		t := mixed()
		change(&t)
		l = append(l, t)
	}
	for i, r := range badRules() {
		add(func(t *api.Table) { t.Rules[i%len(t.Rules)] = r })
	}
	for i, d := range badDrops(12) {
		add(func(t *api.Table) { t.Drops[i%len(t.Drops)] = d })
	}
	for i, d := range badDrops(4) {
		add(func(t *api.Table) { t.Ends[i%len(t.Ends)] = d })
	}
	for _, n := range noCosts {
		add(func(t *api.Table) { t.Drop = n })
		add(func(t *api.Table) { t.Order = n })
		add(func(t *api.Table) { t.Initial = n })
	}
	for i := range mixed().Rules {
		add(func(t *api.Table) { t.Rules = append(t.Rules, t.Rules[i]) })
	}
	for i := range mixed().Drops {
		add(func(t *api.Table) { t.Drops = append(t.Drops, t.Drops[i]) })
	}
	for i := range mixed().Ends {
		add(func(t *api.Table) { t.Ends = append(t.Ends, t.Ends[i]) })
	}
	return l
}

// P10.1, J1: the tables of the tests, and what is in them.
func TestValidTables(t *testing.T) {
	for i, table := range someTables(400) {
		if !rewrite.Valid(table) || !isValid(table) {
			t.Errorf("the table %d is not valid", i)
		}
	}
	for i, table := range invalidTables() {
		if rewrite.Valid(table) || isValid(table) {
			t.Errorf("the table %d is valid", i)
		}
	}
}

// P10.1, J1: rules that are allowed, and rules that are not, at each place of a table.
func TestRulesOfValidTables(t *testing.T) {
	check := func(r api.Rule, want bool) {
		if got := rewrite.Valid(api.Table{Rules: []api.Rule{r}}); got != want {
			t.Errorf("a table with the rule %v is valid: %t", r, got)
		}
		for place := range len(mixed().Rules) + 1 {
			table := mixed()
			table.Rules = slices.Insert(table.Rules, place, r)
			if got := rewrite.Valid(table); got != want {
				t.Errorf("a table with the rule %v at %d is valid: %t", r, place, got)
			}
		}
	}
	for _, r := range goodRules() {
		check(r, true)
	}
	for _, r := range badRules() {
		check(r, false)
	}
}

// P10.1, J1: drops and ends that are allowed, and those that are not, at each place of a table. An end has fewer letters than a drop may have.
func TestDropsOfValidTables(t *testing.T) {
	check := func(d api.Drop, want bool, end bool) {
		for place := range 6 {
			table := mixed()
			if end {
				table.Ends = slices.Insert(table.Ends, place, d)
			} else {
				table.Drops = slices.Insert(table.Drops, place, d)
			}
			if got := rewrite.Valid(table); got != want {
				t.Errorf("a table with %v (an end: %t) at %d is valid: %t", d, end, place, got)
			}
		}
	}
	for _, d := range goodDrops(12) {
		check(d, true, false)
	}
	for _, d := range badDrops(12) {
		check(d, false, false)
	}
	for _, d := range goodDrops(4) {
		check(d, true, true)
	}
	for _, d := range badDrops(4) {
		check(d, false, true)
	}
	for _, script := range all {
		for n := 1; n <= 13; n++ {
			check(drop(script, rep("z", n), 0), n <= 12 && script != syllab, false)
			check(drop(script, rep("z", n), 0), n <= 4 && script != syllab, true)
			check(drop(script, rep("zo", n), 0), n <= 12 && script == syllab || n <= 6 && (script == plain || script == cased), false)
			check(drop(script, rep("zo", n), 0), n <= 4 && script == syllab || n <= 2 && (script == plain || script == cased), true)
		}
	}
}

// P10.1, J1: each byte as the From and the To of a rule, alone and beside a letter.
func TestBytesOfRules(t *testing.T) {
	for b := range 256 {
		c := string([]byte{byte(b)})
		for _, script := range all {
			for _, text := range []string{c, "n" + c, c + "n", "n" + c + "n", c + c + c, "nnn" + c} {
				for _, r := range []api.Rule{rule(script, text, "a", 0), rule(script, "n", text, 0)} {
					table := api.Table{Rules: []api.Rule{r}}
					if got, want := rewrite.Valid(table), isValid(table); got != want {
						t.Fatalf("a table with the rule %v is valid: %t", r, got)
					}
				}
				table := single()
				table.Drops, table.Ends = []api.Drop{drop(script, text, 0)}, []api.Drop{drop(script, text, 0)}
				if got, want := rewrite.Valid(table), isValid(table); got != want {
					t.Fatalf("a table with the drop %v is valid: %t", table.Drops, got)
				}
			}
		}
	}
}

// P10.1, J1: two rows, at any two places, that agree in all but the cost, and rows that agree in less than that.
func TestRowsThatAreThereTwice(t *testing.T) {
	check := func(table api.Table, want bool) {
		t.Helper()
		if got := rewrite.Valid(table); got != want || isValid(table) != want {
			t.Fatalf("the table %v is valid: %t", table, got)
		}
	}
	n := len(mixed().Rules)
	for i := range n {
		for j := range n {
			for _, cost := range []int{mixed().Rules[i].Cost, 0, 1, 7, 1000} {
				table := mixed()
				table.Rules[j] = table.Rules[i]
				table.Rules[j].Cost = cost
				check(table, i == j)
			}
		}
	}
	for i := range 5 {
		for j := range 5 {
			for _, cost := range []int{mixed().Drops[i].Cost, mixed().Ends[i].Cost, 0, 7, 1000} {
				drops, ends := mixed(), mixed()
				drops.Drops[j] = drops.Drops[i]
				drops.Drops[j].Cost = cost
				check(drops, i == j)
				ends.Ends[j] = ends.Ends[i]
				ends.Ends[j].Cost = cost
				check(ends, i == j)
			}
		}
	}
	check(api.Table{Rules: []api.Rule{rule(plain, "a", "a", 1), rule(cased, "a", "a", 1), rule(syllab, "a", "a", 1)}}, true)
	check(api.Table{Rules: []api.Rule{rule(plain, "a", "a", 1), rule(plain, "a", "b", 1), rule(plain, "a", "", 1)}}, true)
	check(api.Table{Rules: []api.Rule{rule(plain, "a", "a", 1), rule(plain, "b", "a", 1), rule(plain, "aa", "a", 1)}}, true)
	// The texts of both rules are equal if they are put behind each other.
	check(api.Table{Rules: []api.Rule{rule(plain, "a", "bc", 1), rule(plain, "ab", "c", 1), rule(plain, "abc", "", 1)}}, true)
	// What is a drop may be an end and a From too.
	table := api.Table{Rules: []api.Rule{rule(plain, "al", "al", 1)}, Drops: []api.Drop{drop(plain, "al", 1), drop(cased, "al", 1)}, Ends: []api.Drop{drop(plain, "al", 1), drop(cased, "al", 1)}}
	check(table, true)
}

// P10.1, J1: the numbers of rules, drops and ends.
func TestTheNumberOfRows(t *testing.T) {
	for _, test := range []struct {
		rules, drops, ends int
		want               bool
	}{
		{0, 0, 0, false}, {1, 0, 0, true}, {2, 0, 0, true}, {79, 0, 0, true}, {80, 0, 0, true}, {81, 0, 0, false}, {82, 0, 0, false}, {100, 0, 0, false},
		{1, 40, 0, true}, {1, 0, 40, true}, {1, 40, 40, true}, {80, 40, 40, true}, {1, 41, 0, false}, {1, 0, 41, false}, {80, 41, 40, false}, {80, 40, 41, false}, {81, 40, 40, false}, {0, 40, 40, false}, {1, 1, 1, true}, {40, 39, 39, true}, {1, 50, 50, false},
	} {
		if got := rewrite.Valid(numbered(test.rules, test.drops, test.ends)); got != test.want {
			t.Errorf("a table with %d rules, %d drops and %d ends is valid: %t", test.rules, test.drops, test.ends, got)
		}
	}
	if none := (api.Table{Rules: []api.Rule{}, Drops: []api.Drop{}, Ends: []api.Drop{}}); rewrite.Valid(none) {
		t.Error("a table with empty slices is valid")
	}
}

// P10.1, J1: Drop, Order and Initial.
func TestCostsOfValidTables(t *testing.T) {
	for _, a := range append([]int{0, 1, 4, 500, 999, 1000}, noCosts...) {
		for _, b := range []int{0, 1, 1000} {
			for _, numbers := range [][3]int{{a, b, b}, {b, a, b}, {b, b, a}} {
				table := example()
				table.Drop, table.Order, table.Initial = numbers[0], numbers[1], numbers[2]
				if got := rewrite.Valid(table); got != isCost(a) {
					t.Errorf("a table with the costs %v is valid: %t", numbers, got)
				}
			}
		}
	}
}

// P10.1, J1: tables in which something was changed at random.
func TestValidAgreesWithLookingAtPairs(t *testing.T) {
	r := rand.New(rand.NewPCG(10, 2))
	counts := map[bool]int{}
	for range 20000 {
		table := randomTable(r, 6)
		for range 1 + r.IntN(2) {
			switch r.IntN(6) {
			case 0:
				table.Rules = append(table.Rules, pick(r, table.Rules))
				table.Rules[len(table.Rules)-1].Cost = randomCost(r)
			case 1:
				table.Rules = append(table.Rules, pick(r, append(goodRules(), badRules()...)))
			case 2:
				table.Drops = append(table.Drops, pick(r, append(goodDrops(12), badDrops(12)...)))
			case 3:
				table.Ends = append(table.Ends, pick(r, append(goodDrops(4), goodDrops(12)...)))
			case 4:
				table.Ends, table.Drops = table.Drops, table.Ends
			case 5:
				table.Rules[r.IntN(len(table.Rules))].Script = pick(r, append(noScripts, all...))
			}
		}
		got := rewrite.Valid(table)
		if got != isValid(table) {
			t.Fatalf("the table %v is valid: %t", table, got)
		}
		counts[got]++
	}
	if min(counts[true], counts[false]) < 2000 {
		t.Fatalf("the tables are valid or not: %v", counts)
	}
}

// P10.1, and P1: no function but Parse has a result for a table that is not valid, whatever the other arguments are.
func TestTablesThatAreNotValid(t *testing.T) {
	for i, table := range invalidTables() {
		if text, err := rewrite.Text(table); text != "" || err != api.ErrArg {
			t.Errorf("Text of the table %d is %q, %d", i, text, err)
		}
		for _, script := range []int{plain, cased, abjad, syllab, 0, 5} {
			for _, word := range []string{"n", "na", "N", "al", "", "a b"} {
				for _, most := range []int{-1, 0, 9, math.MaxInt} {
					if forms, costs, err := rewrite.Forms(table, script, word, most); len(forms) != 0 || len(costs) != 0 || err != api.ErrArg {
						t.Fatalf("Forms of %q in the table %d is %q, %v, %d", word, i, forms, costs, err)
					}
				}
				if l, err := rewrite.Variants(table, script, word); len(l) != 0 || err != api.ErrArg {
					t.Fatalf("Variants of %q in the table %d is %v, %d", word, i, l, err)
				}
				if n, err := rewrite.Dropping(table, script, word); n != 0 || err != api.ErrArg {
					t.Fatalf("Dropping of %q in the table %d is %d, %d", word, i, n, err)
				}
			}
		}
	}
}
