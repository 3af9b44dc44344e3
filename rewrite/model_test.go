package rewrite_test

import (
	"math"
	"math/rand/v2"
	"reflect"
	"regexp"
	"slices"
	"strconv"
	"strings"
	"testing"

	"customhouse/api"
	"customhouse/rewrite"
)

const (
	plain  = api.ScriptPlain
	cased  = api.ScriptCased
	abjad  = api.ScriptAbjad
	syllab = api.ScriptSyllab
)

// all are the scripts.
var all = []int{plain, cased, abjad, syllab}

// noScripts are numbers of no script.
var noScripts = []int{0, 5, -1, 6, 8, 255, 256, 257, -4, 1 << 32, 1<<32 + 1, math.MaxInt, math.MinInt, math.MinInt + 1}

// noCosts are numbers that are no cost.
var noCosts = []int{-1, 1001, -2, 1002, -1000, 2000, 1 << 32, 1<<32 + 1, math.MaxInt, math.MinInt}

// scriptWords are the words of the scripts.
var scriptWords = []string{plain: "plain", cased: "cased", abjad: "abjad", syllab: "syllab"}

// fewLetters are folded letters of each script, of which the tests make words.
var fewLetters = [][]string{
	plain:  {"a", "n", "t", "h"},
	cased:  {"a", "a'", "n", "n^", "h`"},
	abjad:  {"b", "n", "'", "t"},
	syllab: {"a", "na", "n", "ka", "ki"},
}

// letterForms are the forms of letters at the beginning of a text.
var letterForms = []*regexp.Regexp{
	plain:  regexp.MustCompile("\\A[a-z]"),
	cased:  regexp.MustCompile("\\A[a-zA-Z]['`^]?"),
	abjad:  regexp.MustCompile(`\A[bdfghj-np-tw-z']`),
	syllab: regexp.MustCompile(`\A(?:[kstnhmyrwgzdbp][aiueo]|[aiueon])`),
}

var (
	toForm      = regexp.MustCompile(`\A[a-z]{0,3}\z`)
	capitalForm = regexp.MustCompile(`[A-Z]`)
)

// rule returns a rule.
func rule(script int, from, to string, cost int) api.Rule {
	return api.Rule{Script: script, From: from, To: to, Cost: cost}
}

// drop returns a drop, or an end.
func drop(script int, word string, cost int) api.Drop {
	return api.Drop{Script: script, Word: word, Cost: cost}
}

// rep returns a text n times.
func rep(text string, n int) string { return strings.Repeat(text, n) }

// pick returns an element of a list.
func pick[T any](r *rand.Rand, l []T) T { return l[r.IntN(len(l))] }

// shuffled returns the elements of a list in another order.
func shuffled[T any](r *rand.Rand, l []T) []T {
	l = slices.Clone(l)
	r.Shuffle(len(l), func(i, j int) { l[i], l[j] = l[j], l[i] })
	return l
}

// cloned returns a table that shares no memory with another one.
func cloned(t api.Table) api.Table {
	t.Rules, t.Drops, t.Ends = slices.Clone(t.Rules), slices.Clone(t.Drops), slices.Clone(t.Ends)
	return t
}

// sameTable reports whether two tables are equal.
func sameTable(a, b api.Table) bool {
	return slices.Equal(a.Rules, b.Rules) && slices.Equal(a.Drops, b.Drops) && slices.Equal(a.Ends, b.Ends) && a.Drop == b.Drop && a.Order == b.Order && a.Initial == b.Initial
}

// example is the table of the chapter's examples.
func example() api.Table {
	return api.Table{
		Rules: []api.Rule{rule(plain, "a", "a", 0), rule(plain, "n", "n", 0), rule(plain, "t", "t", 0), rule(plain, "h", "h", 0), rule(plain, "nn", "n", 1), rule(plain, "th", "t", 2)},
		Drops: []api.Drop{drop(plain, "al", 1)},
		Ends:  []api.Drop{drop(plain, "a", 3)},
		Drop:  4, Order: 2, Initial: 1,
	}
}

// mixed is a table with rules, drops and ends of all scripts.
func mixed() api.Table {
	return api.Table{
		Rules: []api.Rule{
			rule(plain, "a", "a", 0), rule(cased, "a", "b", 1), rule(syllab, "a", "c", 2), rule(plain, "n", "n", 0),
			rule(cased, "n^", "m", 1), rule(abjad, "n", "na", 1), rule(abjad, "n", "n", 0), rule(syllab, "na", "na", 0),
			rule(syllab, "n", "n", 0), rule(plain, "nn", "n", 1), rule(cased, "a'n^h`", "xyz", 1000), rule(abjad, "'", "", 3),
			rule(plain, "t", "t", 0), rule(cased, "t", "th", 2), rule(syllab, "nna", "xx", 7), rule(plain, "anh", "", 0),
		},
		Drops: []api.Drop{drop(cased, "al", 2), drop(plain, "al", 1), drop(abjad, "'l", 0), drop(syllab, "na", 5), drop(plain, "abcdefghijkl", 1000)},
		Ends:  []api.Drop{drop(syllab, "na", 2), drop(plain, "a", 3), drop(cased, "a", 0), drop(plain, "na", 1), drop(abjad, "bn", 4), drop(cased, "a'n^h`t", 1000)},
		Drop:  4, Order: 1000, Initial: 0,
	}
}

// single is a table with one rule only.
func single() api.Table { return api.Table{Rules: []api.Rule{rule(plain, "a", "b", 7)}} }

// full is a table with as many rules, drops and ends as there may be, with texts that are as long as they may be.
func full() api.Table {
	t := api.Table{Drop: 1000, Order: 1000, Initial: 1000}
	for i := range 80 {
		// To tells the rules apart, and Word the drops and the ends.
		to := "x" + string(rune('a'+i/9)) + string(rune('a'+i%9))
		t.Rules = append(t.Rules, rule([]int{cased, syllab}[i%2], []string{"a'b`c^", "kakiku"}[i%2], to, 1000))
	}
	for i := range 40 {
		letter := string(rune('a'+i/2)) + []string{"'", "^"}[i%2]
		t.Drops = append(t.Drops, drop(cased, rep("h`", 11)+letter, 1000))
		t.Ends = append(t.Ends, drop(cased, rep("h`", 3)+letter, 1000))
	}
	return t
}

// divided returns the letters of a word of a script, and none if it is no word of it.
func divided(script int, word string) []string {
	if !slices.Contains(all, script) {
		return nil
	}
	var l []string
	for rest := word; rest != ""; {
		letter := letterForms[script].FindString(rest)
		if letter == "" || len(l) == 12 {
			return nil
		}
		l = append(l, letter)
		rest = rest[len(letter):]
	}
	return l
}

// folded returns a text with small letters instead of capital letters.
func folded(text string) string {
	return capitalForm.ReplaceAllStringFunc(text, func(c string) string { return string(c[0] + 'a' - 'A') })
}

// isFolded says whether a text is a folded word of a script with at most so many letters.
func isFolded(script int, text string, most int) bool {
	n := len(divided(script, text))
	return n >= 1 && n <= most && folded(text) == text
}

// isCost says whether a number is a cost.
func isCost(n int) bool { return 0 <= n && n <= 1000 }

// isValid says what Valid should, looking at each pair of rows.
func isValid(t api.Table) bool {
	if len(t.Rules) < 1 || len(t.Rules) > 80 || len(t.Drops) > 40 || len(t.Ends) > 40 || !isCost(t.Drop) || !isCost(t.Order) || !isCost(t.Initial) {
		return false
	}
	for i, a := range t.Rules {
		if !isFolded(a.Script, a.From, 3) || !toForm.MatchString(a.To) || !isCost(a.Cost) {
			return false
		}
		for _, b := range t.Rules[:i] {
			if a.Script == b.Script && a.From == b.From && a.To == b.To {
				return false
			}
		}
	}
	return areDrops(t.Drops, 12) && areDrops(t.Ends, 4)
}

// areDrops says whether a table may have these drops or ends, whose words have at most so many letters.
func areDrops(l []api.Drop, most int) bool {
	for i, a := range l {
		if !isFolded(a.Script, a.Word, most) || !isCost(a.Cost) {
			return false
		}
		for _, b := range l[:i] {
			if a.Script == b.Script && a.Word == b.Word {
				return false
			}
		}
	}
	return true
}

// eachRewriting calls a function with the form and the cost of each rewriting of a word with these letters, one by one.
func eachRewriting(t api.Table, script int, letters []string, f func(form string, cost int)) {
	froms := make([][]string, len(t.Rules))
	for i, r := range t.Rules {
		if r.Script == script {
			froms[i] = divided(script, r.From)
		}
	}
	var extend func(left []string, form string, cost int)
	extend = func(left []string, form string, cost int) {
		if len(left) == 0 {
			f(form, cost)
			return
		}
		for i, r := range t.Rules {
			if n := len(froms[i]); n > 0 && n <= len(left) && slices.Equal(froms[i], left[:n]) {
				extend(left[n:], form+r.To, cost+r.Cost)
			}
		}
	}
	extend(letters, "", 0)
}

// wantedForms returns the forms of all rewritings of a word with a cost of at most most, each with its least cost.
func wantedForms(t api.Table, script int, word string, most int) (map[string]int, api.Errno) {
	if divided(script, word) == nil || !isValid(t) {
		return nil, api.ErrArg
	}
	letters := divided(script, folded(word))
	least := map[string]int{}
	eachRewriting(t, script, letters, func(form string, cost int) {
		if old, ok := least[form]; cost <= most && (!ok || cost < old) {
			least[form] = cost
		}
	})
	if len(least) > 1000 {
		return nil, api.ErrLimit
	}
	return least, api.OK
}

// leastCost returns the least cost of a rewriting of a word with a form, and false if there is none, from place to place of the word and of the form.
func leastCost(t api.Table, script int, letters []string, form string) (int, bool) {
	const none = 1 << 40
	costs := map[[2]int]int{{0, 0}: 0}
	for i := range len(letters) {
		for j := range len(form) + 1 {
			cost, ok := costs[[2]int{i, j}]
			if !ok {
				continue
			}
			for _, r := range t.Rules {
				from := divided(script, r.From)
				if r.Script != script || len(from) > len(letters)-i || !slices.Equal(from, letters[i:i+len(from)]) || !strings.HasPrefix(form[j:], r.To) {
					continue
				}
				to := [2]int{i + len(from), j + len(r.To)}
				old, ok := costs[to]
				if !ok {
					old = none
				}
				costs[to] = min(old, cost+r.Cost)
			}
		}
	}
	cost, ok := costs[[2]int{len(letters), len(form)}]
	return cost, ok
}

// checkForms fails a test if Forms does not return these forms with these costs, in their order, or this error.
func checkForms(t *testing.T, table api.Table, script int, word string, most int, want map[string]int, wantErr api.Errno) {
	t.Helper()
	forms, costs, err := rewrite.Forms(table, script, word, most)
	if err != wantErr || len(forms) != len(want) || len(costs) != len(want) {
		t.Fatalf("Forms of %q in %d, at most %d, has %d forms, %d costs, error %d, not %d forms, error %d", word, script, most, len(forms), len(costs), err, len(want), wantErr)
	}
	for i, form := range forms {
		if i > 0 && forms[i-1] >= form {
			t.Fatalf("Forms of %q in %d, at most %d, has %q before %q", word, script, most, forms[i-1], form)
		}
		if cost, ok := want[form]; !ok || costs[i] != cost {
			t.Fatalf("Forms of %q in %d, at most %d, has %q at the cost %d, not %d (%t)", word, script, most, form, costs[i], cost, ok)
		}
	}
}

// wantedVariants returns what Variants and Dropping should return for a word.
func wantedVariants(t api.Table, script int, word string) ([]api.Variant, int, api.Errno) {
	if divided(script, word) == nil || !isValid(t) {
		return nil, 0, api.ErrArg
	}
	word = folded(word)
	letters := divided(script, word)
	l := []api.Variant{{Word: word, End: -1}}
	for i, end := range t.Ends {
		for n := 1; n < len(letters); n++ {
			if end.Script == script && slices.Equal(divided(script, end.Word), letters[n:]) {
				l = append(l, api.Variant{Word: strings.Join(letters[:n], ""), End: i, Cost: end.Cost})
			}
		}
	}
	cost := t.Drop
	for _, d := range t.Drops {
		if d.Script == script && d.Word == word {
			cost = d.Cost
		}
	}
	return l, cost, api.OK
}

// checkVariants fails a test if Variants or Dropping do not return what they should.
func checkVariants(t *testing.T, table api.Table, script int, word string) {
	t.Helper()
	want, cost, wantErr := wantedVariants(table, script, word)
	if got, err := rewrite.Variants(table, script, word); !slices.Equal(got, want) || err != wantErr {
		t.Fatalf("Variants of %q in %d is %v, %d, not %v", word, script, got, err, want)
	}
	if got, err := rewrite.Dropping(table, script, word); got != cost || err != wantErr {
		t.Fatalf("Dropping of %q in %d is %d, %d, not %d", word, script, got, err, cost)
	}
}

// randomWord returns a folded word of a script of few letters, with at least 1 and at most n letters.
func randomWord(r *rand.Rand, script, n int) string {
	word := ""
	for range 1 + r.IntN(n) {
		word += pick(r, fewLetters[script])
	}
	return word
}

// raised returns a word with some capital letters, if its script has them.
func raised(r *rand.Rand, script int, word string) string {
	if script != cased {
		return word
	}
	bytes := []byte(word)
	for i, c := range bytes {
		if c >= 'a' && c <= 'z' && r.IntN(2) == 0 {
			bytes[i] -= 'a' - 'A'
		}
	}
	return string(bytes)
}

// randomRule returns a rule of a script for few letters.
func randomRule(r *rand.Rand, script int) api.Rule {
	return rule(script, randomWord(r, script, pick(r, []int{1, 1, 2, 3})), pick(r, []string{"", "a", "b", "a", "b", "aa", "ab", "bab"}), randomCost(r))
}

// randomCost returns a cost.
func randomCost(r *rand.Rand) int { return pick(r, []int{0, 0, 1, 1, 2, 3, 10, 999, 1000}) }

// randomTable returns a valid table with at most so many rules, and at least four of them, most of which are of the script of the first one and cover its words.
func randomTable(r *rand.Rand, rules int) api.Table {
	t := api.Table{Drop: randomCost(r), Order: randomCost(r), Initial: randomCost(r)}
	script := pick(r, all)
	for _, letter := range fewLetters[script][r.IntN(2)*r.IntN(2):] {
		t.Rules = append(t.Rules, rule(script, letter, pick(r, []string{"", "a", "b", "c", "ab"}), randomCost(r)))
	}
	for range r.IntN(max(1, rules-len(t.Rules))) {
		one := randomRule(r, pick(r, append(all, script, script, script)))
		if !slices.ContainsFunc(t.Rules, func(o api.Rule) bool {
			return o.Script == one.Script && o.From == one.From && o.To == one.To
		}) {
			t.Rules = append(t.Rules, one)
		}
	}
	t.Drops = randomDrops(r, 5)
	t.Ends = randomDrops(r, 4)
	return t
}

// randomDrops returns drops or ends of a valid table, with at most so many letters.
func randomDrops(r *rand.Rand, letters int) []api.Drop {
	var l []api.Drop
	for range r.IntN(12) {
		script := pick(r, all)
		one := drop(script, randomWord(r, script, letters), randomCost(r))
		if !slices.ContainsFunc(l, func(o api.Drop) bool { return o.Script == one.Script && o.Word == one.Word }) {
			l = append(l, one)
		}
	}
	return l
}

// someTables are valid tables of all kinds.
func someTables(n int) []api.Table {
	r := rand.New(rand.NewPCG(10, 1))
	l := []api.Table{example(), mixed(), single(), full()}
	for range n {
		l = append(l, randomTable(r, pick(r, []int{3, 20, 40, 80})))
	}
	return l
}

// unchanged calls a function, and fails a test if it changes a table, which it is given with room behind its rows.
func unchanged(t *testing.T, table api.Table, f func(api.Table)) {
	t.Helper()
	given, before := roomy(table), roomy(table)
	f(given)
	given.Rules, before.Rules = given.Rules[:cap(given.Rules)], before.Rules[:cap(before.Rules)]
	given.Drops, before.Drops = given.Drops[:cap(given.Drops)], before.Drops[:cap(before.Drops)]
	given.Ends, before.Ends = given.Ends[:cap(given.Ends)], before.Ends[:cap(before.Ends)]
	if !reflect.DeepEqual(given, before) {
		t.Fatal("a table was changed")
	}
}

// roomy returns a table whose slices have one more row behind their ends.
func roomy(t api.Table) api.Table {
	rules := append(append(make([]api.Rule, 0, len(t.Rules)+1), t.Rules...), rule(plain, "zzz", "zzz", 5))
	drops := append(append(make([]api.Drop, 0, len(t.Drops)+1), t.Drops...), drop(plain, "zzz", 5))
	ends := append(append(make([]api.Drop, 0, len(t.Ends)+1), t.Ends...), drop(plain, "zzz", 5))
	t.Rules, t.Drops, t.Ends = rules[:len(rules)-1], drops[:len(drops)-1], ends[:len(ends)-1]
	return t
}

// shortened returns the beginning of a text, for messages.
func shortened(text string) string {
	if len(text) > 200 {
		return strconv.Quote(text[:200]) + " and " + strconv.Itoa(len(text)-200) + " bytes more"
	}
	return strconv.Quote(text)
}
