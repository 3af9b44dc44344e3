package align_test

import (
	"cmp"
	"math"
	"math/rand/v2"
	"slices"
	"strconv"
	"strings"
	"testing"

	"customhouse/align"
	"customhouse/api"
	"customhouse/rewrite"
	"customhouse/script"
)

const (
	plain  = api.ScriptPlain
	cased  = api.ScriptCased
	abjad  = api.ScriptAbjad
	syllab = api.ScriptSyllab
)

// all are the scripts.
var all = []int{plain, cased, abjad, syllab}

// noScripts are numbers of no script.
var noScripts = []int{0, 5, -1, 6, 8, 255, 256, 257, -4, 1 << 32, 1<<32 + 1, math.MaxInt, math.MinInt, math.MinInt + 1}

// fewLetters are folded letters of each script, of which the tests make words.
var fewLetters = [][]string{
	plain:  {"a", "n", "t"},
	cased:  {"a", "a'", "n", "n^"},
	abjad:  {"b", "n", "'"},
	syllab: {"a", "na", "n", "ka"},
}

// rule returns a rule.
func rule(script int, from, to string, cost int) api.Rule {
	return api.Rule{Script: script, From: from, To: to, Cost: cost}
}

// drop returns a drop, or an end.
func drop(script int, word string, cost int) api.Drop {
	return api.Drop{Script: script, Word: word, Cost: cost}
}

// tableOf returns a table with rules.
func tableOf(rules ...api.Rule) api.Table { return api.Table{Rules: rules} }

// example is the table of the chapter's examples.
func example() api.Table {
	return tableOf(rule(plain, "a", "a", 0), rule(plain, "n", "n", 0), rule(plain, "nn", "n", 1), rule(abjad, "n", "n", 0), rule(abjad, "n", "na", 2))
}

// by returns a derivation, with lists of rules as texts.
func by(cost int, form, left, right string) api.Derivation {
	return api.Derivation{Cost: cost, Left: indices(left), Right: indices(right), Form: form}
}

// indices returns the numbers of a text.
func indices(text string) []int {
	var l []int
	for _, word := range strings.Fields(text) {
		n, err := strconv.Atoi(word)
		if err != nil {
			panic(err)
		}
		l = append(l, n)
	}
	return l
}

// rep returns a text n times.
func rep(text string, n int) string { return strings.Repeat(text, n) }

// pick returns an element of a list.
func pick[T any](r *rand.Rand, l []T) T { return l[r.IntN(len(l))] }

// shuffled returns the elements of a list in another order.
func shuffled[T any](r *rand.Rand, l []T) []T {
	l = slices.Clone(l)
	r.Shuffle(len(l), func(i, j int) { l[i], l[j] = l[j], l[i] })
	return l
}

// cloned returns a derivation that shares no memory with another one.
func cloned(d api.Derivation) api.Derivation {
	d.Left, d.Right = slices.Clone(d.Left), slices.Clone(d.Right)
	return d
}

// exchanged returns a derivation for the exchanged words.
func exchanged(d api.Derivation) api.Derivation {
	d.Left, d.Right = d.Right, d.Left
	return d
}

// same reports whether two derivations are equal.
func same(d, e api.Derivation) bool {
	return d.Cost == e.Cost && d.Form == e.Form && slices.Equal(d.Left, e.Left) && slices.Equal(d.Right, e.Right)
}

// pair is two words, each with its script.
type pair struct {
	a int
	x string
	b int
	y string
}

// String returns both words, of which long ones are shortened, for messages.
func (p pair) String() string {
	word := func(script int, text string) string {
		return strconv.Itoa(script) + ":" + strconv.Quote(text[:min(len(text), 40)])
	}
	return word(p.a, p.x) + " and " + word(p.b, p.y)
}

// swapped returns both words exchanged.
func (p pair) swapped() pair { return pair{p.b, p.y, p.a, p.x} }

// best returns what Best returns.
func (p pair) best(t api.Table) (api.Derivation, api.Errno) { return align.Best(t, p.a, p.x, p.b, p.y) }

// check returns what Check returns.
func (p pair) check(t api.Table, d api.Derivation) bool {
	return align.Check(t, p.a, p.x, p.b, p.y, d)
}

// lettersOf returns the letters of a folded word, or none if it is no word of the script.
func lettersOf(kind int, word string) []string {
	folded, err := script.Fold(kind, word)
	if err != api.OK {
		return nil
	}
	letters, _ := script.Letters(kind, folded)
	return letters
}

// rewriting is a list of rules whose From's are the letters of a word.
type rewriting struct {
	rules []int
	form  string
	cost  int
}

// rewritings returns all rewritings of a word with these letters.
func rewritings(t api.Table, kind int, letters []string) []rewriting {
	if len(letters) == 0 {
		return []rewriting{{}}
	}
	var l []rewriting
	for i, r := range t.Rules {
		from := lettersOf(r.Script, r.From)
		if r.Script != kind || len(from) > len(letters) || !slices.Equal(from, letters[:len(from)]) {
			continue
		}
		for _, rest := range rewritings(t, kind, letters[len(from):]) {
			l = append(l, rewriting{append([]int{i}, rest.rules...), r.To + rest.form, r.Cost + rest.cost})
		}
	}
	return l
}

// written returns the indices of the rules of a derivation in the order of its moves: the left word moves if it has written less than the right one, or as much, while it has letters left.
func written(t api.Table, left, right []int) []int {
	var l []int
	ahead := 0
	for len(left)+len(right) > 0 {
		if ahead < 0 || ahead == 0 && len(left) > 0 {
			ahead += len(t.Rules[left[0]].To)
			l, left = append(l, left[0]), left[1:]
		} else {
			ahead -= len(t.Rules[right[0]].To)
			l, right = append(l, right[0]), right[1:]
		}
	}
	return l
}

// derivations returns all derivations for two words: two rewritings with one form each.
func derivations(t api.Table, p pair) []api.Derivation {
	var l []api.Derivation
	ends := map[string][]rewriting{}
	for _, right := range rewritings(t, p.b, lettersOf(p.b, p.y)) {
		ends[right.form] = append(ends[right.form], right)
	}
	for _, left := range rewritings(t, p.a, lettersOf(p.a, p.x)) {
		for _, right := range ends[left.form] {
			l = append(l, api.Derivation{Cost: left.cost + right.cost, Left: left.rules, Right: right.rules, Form: left.form})
		}
	}
	return l
}

// order compares two derivations by their costs, and then by the rules of their moves.
func order(t api.Table, d, e api.Derivation) int {
	if d.Cost != e.Cost {
		return d.Cost - e.Cost
	}
	return slices.Compare(written(t, d.Left, d.Right), written(t, e.Left, e.Right))
}

// areWords says whether a table is valid, and both words are words of their scripts.
func areWords(t api.Table, p pair) bool {
	return rewrite.Valid(t) && lettersOf(p.a, p.x) != nil && lettersOf(p.b, p.y) != nil
}

// wanted returns what Best should return, and the number of derivations with the least cost, looking at all derivations.
func wanted(t api.Table, p pair) (api.Derivation, int, api.Errno) {
	if !areWords(t, p) {
		return api.Derivation{}, 0, api.ErrArg
	}
	l := derivations(t, p)
	if len(l) == 0 {
		return api.Derivation{}, 0, api.ErrNone
	}
	least := slices.MinFunc(l, func(d, e api.Derivation) int { return order(t, d, e) })
	equal := 0
	for _, d := range l {
		if d.Cost == least.Cost {
			equal++
		}
	}
	return least, equal, api.OK
}

// path is a beginning of a derivation: what both words have written, and the rules of its moves.
type path struct {
	derivation  api.Derivation
	left, right string
	moves       []int
}

// ahead returns what one side has written more, after + for the left one and - for the right one, and false if both do not fit.
func (p path) ahead() (string, bool) {
	if strings.HasPrefix(p.left, p.right) {
		return "+" + p.left[len(p.right):], true
	}
	return "-" + strings.TrimPrefix(p.right, p.left), strings.HasPrefix(p.right, p.left)
}

// isLess says whether a beginning is cheaper than another one, or costs as much and comes first.
func (p path) isLess(q path) bool {
	if p.derivation.Cost != q.derivation.Cost {
		return p.derivation.Cost < q.derivation.Cost
	}
	return slices.Compare(p.moves, q.moves) < 0
}

// extended returns a beginning with a further rule for the left word, or for the right one.
func (p path) extended(i int, r api.Rule, left bool) path {
	p.derivation = cloned(p.derivation)
	p.derivation.Cost += r.Cost
	p.moves = append(slices.Clone(p.moves), i)
	if left {
		p.derivation.Left = append(p.derivation.Left, i)
		p.left += r.To
	} else {
		p.derivation.Right = append(p.derivation.Right, i)
		p.right += r.To
	}
	return p
}

// walk returns what Best should return for valid arguments, keeping the first one of the cheapest beginnings for each number of letters and each text ahead, from the beginning of both words on.
func walk(t api.Table, p pair) (api.Derivation, api.Errno) {
	letters := [2][]string{lettersOf(p.a, p.x), lettersOf(p.b, p.y)}
	froms := make([][]string, len(t.Rules))
	for i, r := range t.Rules {
		froms[i] = lettersOf(r.Script, r.From)
	}
	paths := map[[2]int]map[string]path{{0, 0}: {"+": {}}}
	for used := range len(letters[0]) + len(letters[1]) {
		for i := range used + 1 {
			for ahead, one := range paths[[2]int{i, used - i}] {
				side, script, place := 1, p.b, used-i
				if ahead[0] == '-' || ahead == "+" && i < len(letters[0]) {
					side, script, place = 0, p.a, i
				}
				for k, r := range t.Rules {
					if place > len(letters[side]) || r.Script != script || len(froms[k]) > len(letters[side])-place || !slices.Equal(froms[k], letters[side][place:place+len(froms[k])]) {
						continue
					}
					at := [2]int{i, used - i}
					at[side] += len(froms[k])
					keepFirst(paths, at, one.extended(k, r, side == 0))
				}
			}
		}
	}
	if last, ok := paths[[2]int{len(letters[0]), len(letters[1])}]["+"]; ok {
		last.derivation.Form = last.left
		return last.derivation, api.OK
	}
	return api.Derivation{}, api.ErrNone
}

// keepFirst puts a beginning into a map, unless it does not fit, or one is there that comes before it.
func keepFirst(paths map[[2]int]map[string]path, at [2]int, p path) {
	ahead, ok := p.ahead()
	if !ok {
		return
	}
	if paths[at] == nil {
		paths[at] = map[string]path{}
	}
	if old, ok := paths[at][ahead]; !ok || p.isLess(old) {
		paths[at][ahead] = p
	}
}

// isRight says what Check should, looking at all rewritings.
func isRight(t api.Table, p pair, d api.Derivation) bool {
	return areWords(t, p) && slices.ContainsFunc(derivations(t, p), func(e api.Derivation) bool { return same(d, e) })
}

// checkBest fails a test if Best does not return this derivation, or this error, or if Check does not find it right.
func checkBest(t *testing.T, table api.Table, p pair, want api.Derivation, wantErr api.Errno) {
	t.Helper()
	got, err := p.best(table)
	if !same(got, want) || err != wantErr {
		t.Fatalf("Best of %v is %v, %d, not %v, %d, with %v", p, got, err, want, wantErr, table.Rules)
	}
	if p.check(table, got) != (err == api.OK) {
		t.Fatalf("Check of %v, for %v, is %t, with %v", got, p, err != api.OK, table.Rules)
	}
}

// randomWord returns a folded word of a script of few letters, with at least 1 and at most n letters.
func randomWord(r *rand.Rand, script, n int) string {
	word := ""
	for range 1 + r.IntN(n) {
		word += pick(r, fewLetters[script])
	}
	return word
}

// longWord returns a folded word of a script of few letters, with 11 or 12 letters, as n and a become one letter in ScriptSyllab.
func longWord(r *rand.Rand, script int) string {
	for {
		word := ""
		for range 12 {
			word += pick(r, fewLetters[script])
		}
		if len(lettersOf(script, word)) > 10 {
			return word
		}
	}
}

// raised returns a word with some capital letters, if its script has them.
func raised(r *rand.Rand, script int, word string) string {
	if script != cased {
		return word
	}
	bytes := []byte(word)
	for i, c := range bytes {
		if c >= 'a' && c <= 'z' && r.IntN(2) == 0 {
			bytes[i] -= 'a' - 'A'
		}
	}
	return string(bytes)
}

// randomRules returns rules of some scripts, which differ in more than their costs: one for each of few letters, which mostly writes something, and others as long as there are at most so many.
func randomRules(r *rand.Rand, scripts []int, most int, costs []int) []api.Rule {
	texts := pick(r, [][]string{{"", "a", "aa", "aaa"}, {"", "a", "a", "aa"}, {"a", "aa", "aaa"}, {"", "a", "b", "ab", "ba", "bab"}, {"a", "aa", "ab", "b", "aab"}, {"", "a", "b", "c", "abc", "bc", "ca"}})
	found := map[api.Rule]int{}
	for _, script := range scripts {
		for _, letter := range fewLetters[script] {
			found[rule(script, letter, pick(r, texts[1:]), 0)] = pick(r, costs)
		}
	}
	for range r.IntN(max(1, most-len(found))) {
		script := pick(r, scripts)
		found[rule(script, randomWord(r, script, pick(r, []int{1, 1, 2, 3})), pick(r, texts), 0)] = pick(r, costs)
	}
	var l []api.Rule
	for free, cost := range found {
		free.Cost = cost
		l = append(l, free)
	}
	// The order of a map is another one each time.
	slices.SortFunc(l, func(a, b api.Rule) int {
		return cmp.Or(a.Script-b.Script, strings.Compare(a.From, b.From), strings.Compare(a.To, b.To))
	})
	return shuffled(r, l)
}

// randomCosts are lists of costs, of which those with few ones make many derivations equal.
var randomCosts = [][]int{{0}, {1}, {0, 1}, {0, 1, 2}, {1, 2}, {0, 1000}, {1000}, {0, 1, 2, 3, 10, 999, 1000}}

// randomCase returns a valid table, and two words of at most so many letters, many of which have common forms.
func randomCase(r *rand.Rand, rules, letters int) (api.Table, pair) {
	scripts := shuffled(r, all)[:1+r.IntN(2)]
	t := tableOf(randomRules(r, scripts, rules, pick(r, randomCosts))...)
	p := pair{a: pick(r, scripts), b: pick(r, scripts)}
	p.x, p.y = randomWord(r, p.a, letters), randomWord(r, p.b, letters)
	if p.a == p.b && r.IntN(8) == 0 {
		p.y = p.x
	}
	p.x, p.y = raised(r, p.a, p.x), raised(r, p.b, p.y)
	return t, p
}
