package potential_test

import (
	"cmp"
	"maps"
	"math"
	"math/rand/v2"
	"slices"
	"strconv"
	"strings"
	"testing"

	"customhouse/api"
	"customhouse/potential"
	"customhouse/rewrite"
	"customhouse/script"
)

const (
	plain  = api.ScriptPlain
	cased  = api.ScriptCased
	abjad  = api.ScriptAbjad
	syllab = api.ScriptSyllab
)

// all are the scripts.
var all = []int{plain, cased, abjad, syllab}

// noScripts are numbers of no script.
var noScripts = []int{0, 5, -1, 6, 255, 256, 257, -4, 1 << 32, 1<<32 + 1, math.MaxInt, math.MinInt, math.MinInt + 1}

// fewLetters are folded letters of each script, of which the tests make words.
var fewLetters = [][]string{
	plain:  {"a", "n", "t"},
	cased:  {"a", "a'", "n", "n^"},
	abjad:  {"b", "n", "'"},
	syllab: {"a", "na", "n", "ka"},
}

// rule returns a rule.
func rule(script int, from, to string, cost int) api.Rule {
	return api.Rule{Script: script, From: from, To: to, Cost: cost}
}

// drop returns a drop, or an end.
func drop(script int, word string, cost int) api.Drop {
	return api.Drop{Script: script, Word: word, Cost: cost}
}

// tableOf returns a table with rules.
func tableOf(rules ...api.Rule) api.Table { return api.Table{Rules: rules} }

// list returns the elements that a text has, separated by semicolons: I, J, the text ahead (with > before it if it is of the right word, and left out if it is empty), and H.
func list(text string) []api.Potential {
	var l []api.Potential
	for part := range strings.SplitSeq(text, ";") {
		words := strings.Fields(part)
		if len(words) == 0 {
			continue
		}
		p := api.Potential{I: number(words[0]), J: number(words[1]), H: number(words[len(words)-1])}
		if len(words) == 4 {
			p.Ahead, p.Right = strings.CutPrefix(words[2], ">")
		}
		l = append(l, p)
	}
	return l
}

// number returns the number of a text.
func number(text string) int {
	n, err := strconv.Atoi(text)
	if err != nil {
		panic(err)
	}
	return n
}

// rep returns a text n times.
func rep(text string, n int) string { return strings.Repeat(text, n) }

// pick returns an element of a list.
func pick[T any](r *rand.Rand, l []T) T { return l[r.IntN(len(l))] }

// shuffled returns the elements of a list in another order.
func shuffled[T any](r *rand.Rand, l []T) []T {
	l = slices.Clone(l)
	r.Shuffle(len(l), func(i, j int) { l[i], l[j] = l[j], l[i] })
	return l
}

// pair is two words, each with its script.
type pair struct {
	a int
	x string
	b int
	y string
}

// String returns both words, of which long ones are shortened, for messages.
func (p pair) String() string {
	word := func(script int, text string) string {
		return strconv.Itoa(script) + ":" + strconv.Quote(text[:min(len(text), 40)])
	}
	return word(p.a, p.x) + " and " + word(p.b, p.y)
}

// swapped returns both words exchanged.
func (p pair) swapped() pair { return pair{p.b, p.y, p.a, p.x} }

// make returns what Make returns.
func (p pair) make(t api.Table, bound int) ([]api.Potential, api.Errno) {
	return potential.Make(t, p.a, p.x, p.b, p.y, bound)
}

// check returns what Check returns.
func (p pair) check(t api.Table, bound int, l []api.Potential) bool {
	return potential.Check(t, p.a, p.x, p.b, p.y, bound, l)
}

// lettersOf returns the letters of a folded word, or none if it is no word of the script.
func lettersOf(kind int, word string) []string {
	folded, err := script.Fold(kind, word)
	if err != api.OK {
		return nil
	}
	letters, _ := script.Letters(kind, folded)
	return letters
}

// areWords says whether a table is valid, and both words are words of their scripts.
func areWords(t api.Table, p pair) bool {
	return rewrite.Valid(t) && lettersOf(p.a, p.x) != nil && lettersOf(p.b, p.y) != nil
}

// place is a state: how many letters of both words are used, and what each of them has written more than the other one.
type place struct {
	i, j        int
	left, right string
}

// placeOf returns the state of an element.
func placeOf(p api.Potential) place {
	if p.Right {
		return place{p.I, p.J, "", p.Ahead}
	}
	return place{p.I, p.J, p.Ahead, ""}
}

// element returns the element of a state.
func (at place) element(h int) api.Potential {
	return api.Potential{I: at.i, J: at.j, Ahead: at.left + at.right, Right: at.right != "", H: h}
}

// use is a rule whose From has so many letters.
type use struct {
	api.Rule
	letters int
}

// model has the letters of two words, and the rules whose From's are the next letters at each place of either word.
type model struct {
	rules       []api.Rule
	left, right []string
	uses        [2][][]use
}

// newModel returns the model of a valid table and two words.
func newModel(t api.Table, p pair) model {
	m := model{rules: t.Rules, left: lettersOf(p.a, p.x), right: lettersOf(p.b, p.y)}
	m.uses = [2][][]use{usesOf(t, p.a, m.left), usesOf(t, p.b, m.right)}
	return m
}

// usesOf returns for each place of a word the rules whose From's are the next letters.
func usesOf(t api.Table, kind int, letters []string) [][]use {
	l := make([][]use, len(letters)+1)
	for _, r := range t.Rules {
		from := lettersOf(r.Script, r.From)
		for i := range letters {
			if r.Script == kind && len(from) <= len(letters)-i && slices.Equal(letters[i:i+len(from)], from) {
				l[i] = append(l[i], use{r, len(from)})
			}
		}
	}
	return l
}

// end returns the end.
func (m model) end() place { return place{i: len(m.left), j: len(m.right)} }

// next is a state to which a move leads, and what the move costs.
type next struct {
	to   place
	cost int
}

// moves returns the states to which moves lead. The word that has written less moves; if both have written as much, it is the left one while it has letters.
func (m model) moves(at place) []next {
	var l []next
	uses := m.uses[1][at.j]
	goesLeft := len(at.left) < len(at.right) || at.left == at.right && at.i < len(m.left)
	if goesLeft {
		uses = m.uses[0][at.i]
	}
	for _, r := range uses {
		to := at
		if goesLeft {
			to.i, to.left = at.i+r.letters, at.left+r.To
		} else {
			to.j, to.right = at.j+r.letters, at.right+r.To
		}
		common := 0
		for common < min(len(to.left), len(to.right)) && to.left[common] == to.right[common] {
			common++
		}
		to.left, to.right = to.left[common:], to.right[common:]
		if to.left == "" || to.right == "" {
			l = append(l, next{to, r.Cost})
		}
	}
	return l
}

// aheads returns all texts that may be ahead, in increasing order: the ends of what rules write.
func (m model) aheads() []string {
	found := map[string]bool{"": true}
	for _, r := range m.rules {
		for i := range r.To {
			found[r.To[i:]] = true
		}
	}
	return slices.Sorted(maps.Keys(found))
}

// places returns all states with texts that may be ahead, in order, also those to which no moves lead.
func (m model) places() []place {
	var l []place
	texts := m.aheads()
	for i := range len(m.left) + 1 {
		for j := range len(m.right) + 1 {
			for _, text := range texts {
				l = append(l, place{i, j, text, ""})
				if text != "" {
					l = append(l, place{i, j, "", text})
				}
			}
		}
	}
	return l
}

// byUse returns states in the order of how many letters are used, those with few ones first. A move leads to a state behind.
func byUse(l []place) []place {
	return slices.SortedStableFunc(slices.Values(l), func(a, b place) int { return cmp.Compare(a.i+a.j, b.i+b.j) })
}

// endless is the cost from a state from which no moves lead to the end.
const endless = 1 << 40

// costs returns the least costs from all states, those at the end of both words first.
func (m model) costs() map[place]int {
	costs := map[place]int{}
	for _, at := range slices.Backward(byUse(m.places())) {
		least := endless
		if at == m.end() {
			least = 0
		}
		for _, move := range m.moves(at) {
			least = min(least, move.cost+costs[move.to])
		}
		costs[at] = least
	}
	return costs
}

// reached returns the states to which moves lead from the begin, with the number of moves that lead to each.
func (m model) reached() map[place]int {
	found := map[place]int{{}: 1}
	for _, at := range byUse(m.places()) {
		if found[at] > 0 {
			for _, move := range m.moves(at) {
				found[move.to]++
			}
		}
	}
	return found
}

// solved has the least costs from all states, and the states to which moves lead from the begin.
type solved struct {
	model
	costs, reached map[place]int
}

// newSolved returns the solved model of a valid table and two words.
func newSolved(t api.Table, p pair) solved {
	m := newModel(t, p)
	return solved{m, m.costs(), m.reached()}
}

// least returns the least cost from the begin.
func (s solved) least() int { return s.costs[place{}] }

// wanted returns what Make should return for a bound.
func (s solved) wanted(bound int) ([]api.Potential, api.Errno) {
	if bound < 0 || bound > 100000 {
		return nil, api.ErrArg
	}
	if s.least() < bound {
		return nil, api.ErrNone
	}
	var l []api.Potential
	for _, at := range s.places() {
		if h := min(s.costs[at], bound); s.reached[at] > 0 && h > 0 {
			l = append(l, at.element(h))
		}
	}
	return l, api.OK
}

// wanted returns what Make should return.
func wanted(t api.Table, p pair, bound int) ([]api.Potential, api.Errno) {
	if !areWords(t, p) {
		return nil, api.ErrArg
	}
	return newSolved(t, p).wanted(bound)
}

// holds says what Check should.
func holds(t api.Table, p pair, bound int, l []api.Potential) bool {
	return areWords(t, p) && newModel(t, p).holds(bound, l)
}

// holds says whether a certificate holds for the words of a model.
func (m model) holds(bound int, l []api.Potential) bool {
	h := map[place]int{}
	last := ""
	for _, p := range l {
		if !m.isElement(p, bound) {
			return false
		}
		// Texts of one length, of which the first bytes count most.
		key := string([]byte{'0' + byte(p.I), '0' + byte(p.J)}) + (p.Ahead + "\x00\x00\x00")[:3] + strconv.FormatBool(p.Right)
		if last >= key {
			return false
		}
		last = key
		h[placeOf(p)] = p.H
	}
	for at := range h {
		for _, move := range m.moves(at) {
			if h[at] > move.cost+h[move.to] {
				return false
			}
		}
	}
	return h[place{}] >= bound
}

// isElement says whether an element may stand in a certificate.
func (m model) isElement(p api.Potential, bound int) bool {
	if p.I < 0 || p.J < 0 || p.I > len(m.left) || p.J > len(m.right) || len(p.Ahead) > 3 || p.H <= 0 || p.H > bound || p.H > 100000 {
		return false
	}
	for _, c := range []byte(p.Ahead) {
		if c < 'a' || c > 'z' {
			return false
		}
	}
	if p.Ahead == "" {
		return !p.Right && (p.I < len(m.left) || p.J < len(m.right))
	}
	return true
}

// rewritings returns the form and the cost of all rewritings of letters, as texts and costs side by side.
func rewritings(t api.Table, kind int, letters []string) (forms []string, costs []int) {
	if len(letters) == 0 {
		return []string{""}, []int{0}
	}
	for _, r := range t.Rules {
		from := lettersOf(r.Script, r.From)
		if r.Script != kind || len(from) > len(letters) || !slices.Equal(from, letters[:len(from)]) {
			continue
		}
		rest, more := rewritings(t, kind, letters[len(from):])
		for i := range rest {
			forms, costs = append(forms, r.To+rest[i]), append(costs, r.Cost+more[i])
		}
	}
	return forms, costs
}

// leastOf returns the least cost of rewritings of what is left of both words in a state, such that both write as much in all, looking at all pairs of rewritings.
func leastOf(t api.Table, p pair, at place) int {
	least := endless
	ends := map[string]int{}
	forms, costs := rewritings(t, p.a, lettersOf(p.a, p.x)[at.i:])
	for i, form := range forms {
		if old, ok := ends[at.left+form]; !ok || costs[i] < old {
			ends[at.left+form] = costs[i]
		}
	}
	forms, costs = rewritings(t, p.b, lettersOf(p.b, p.y)[at.j:])
	for i, form := range forms {
		if cost, ok := ends[at.right+form]; ok {
			least = min(least, cost+costs[i])
		}
	}
	return least
}

// checkMake fails a test if Make does not return these elements, or this error, or if Check does not find that they hold.
func checkMake(t *testing.T, table api.Table, p pair, bound int, want []api.Potential, wantErr api.Errno) {
	t.Helper()
	got, err := p.make(table, bound)
	if !slices.Equal(got, want) || err != wantErr {
		t.Fatalf("Make of %v and %d is %v, %d, not %v, %d, with %v", p, bound, got, err, want, wantErr, table.Rules)
	}
	if err == api.OK && !p.check(table, bound, got) {
		t.Fatalf("Check of %v, for %v and %d, is false, with %v", got, p, bound, table.Rules)
	}
}

// checkVerdict fails a test if Check, or the model, says something else about a certificate.
func checkVerdict(t *testing.T, table api.Table, p pair, bound int, l []api.Potential, want bool) {
	t.Helper()
	if got := p.check(table, bound, l); got != want {
		t.Fatalf("Check of %v, for %v and %d, is %t, with %v", l, p, bound, got, table.Rules)
	}
	if holds(table, p, bound, l) != want {
		t.Fatalf("%v, for %v and %d, is not what the test says, with %v", l, p, bound, table.Rules)
	}
}

// randomWord returns a folded word of a script of few letters, with at least 1 and at most n letters.
func randomWord(r *rand.Rand, script, n int) string {
	word := ""
	for range 1 + r.IntN(n) {
		word += pick(r, fewLetters[script])
	}
	return word
}

// longWord returns a folded word of a script of few letters, with 11 or 12 letters, as n and a become one letter in ScriptSyllab.
func longWord(r *rand.Rand, script int) string {
	for {
		word := ""
		for range 12 {
			word += pick(r, fewLetters[script])
		}
		if len(lettersOf(script, word)) > 10 {
			return word
		}
	}
}

// raised returns a word with some capital letters, if its script has them.
func raised(r *rand.Rand, script int, word string) string {
	if script != cased {
		return word
	}
	bytes := []byte(word)
	for i, c := range bytes {
		if c >= 'a' && c <= 'z' && r.IntN(2) == 0 {
			bytes[i] -= 'a' - 'A'
		}
	}
	return string(bytes)
}

// randomRules returns rules of some scripts, which differ in more than their costs: one for each of few letters, which mostly writes something, and others as long as there are at most so many.
func randomRules(r *rand.Rand, scripts []int, most int, costs []int) []api.Rule {
	texts := pick(r, [][]string{{"", "a", "aa", "aaa"}, {"", "a", "a", "aa"}, {"a", "aa", "aaa"}, {"", "a", "b", "ab", "ba", "bab"}, {"a", "aa", "ab", "b", "aab"}, {"", "a", "b", "c", "abc", "bc", "ca"}})
	found := map[api.Rule]int{}
	for _, script := range scripts {
		for _, letter := range fewLetters[script] {
			found[rule(script, letter, pick(r, texts[1:]), 0)] = pick(r, costs)
		}
	}
	for range r.IntN(max(1, most-len(found))) {
		script := pick(r, scripts)
		found[rule(script, randomWord(r, script, pick(r, []int{1, 1, 2, 3})), pick(r, texts), 0)] = pick(r, costs)
	}
	var l []api.Rule
	for free, cost := range found {
		free.Cost = cost
		l = append(l, free)
	}
	// The order of a map is another one each time.
	slices.SortFunc(l, func(a, b api.Rule) int {
		return cmp.Or(a.Script-b.Script, strings.Compare(a.From, b.From), strings.Compare(a.To, b.To))
	})
	return shuffled(r, l)
}

// randomCosts are lists of costs, of which those with a 0 make states from which the least cost is 0.
var randomCosts = [][]int{{0}, {1}, {0, 1}, {0, 1, 2}, {1, 2}, {0, 1000}, {1000}, {0, 1, 2, 3, 10, 999, 1000}}

// randomCase returns a valid table, and two words of at most so many letters, many of which have common forms.
func randomCase(r *rand.Rand, rules, letters int) (api.Table, pair) {
	scripts := shuffled(r, all)[:1+r.IntN(2)]
	t := tableOf(randomRules(r, scripts, rules, pick(r, randomCosts))...)
	p := pair{a: pick(r, scripts), b: pick(r, scripts)}
	p.x, p.y = randomWord(r, p.a, letters), randomWord(r, p.b, letters)
	if p.a == p.b && r.IntN(8) == 0 {
		p.y = p.x
	}
	p.x, p.y = raised(r, p.a, p.x), raised(r, p.b, p.y)
	return t, p
}
