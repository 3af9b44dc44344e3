package align_test

import (
	"math"
	"math/rand/v2"
	"reflect"
	"slices"
	"strings"
	"testing"

	"customhouse/align"
	"customhouse/api"
	"customhouse/rewrite"
)

// eachCase calls a function with tables and pairs of words, and with what Best returns for them. It fails a test if fewer than a fifth of the pairs have a derivation, or if fewer have none.
func eachCase(t *testing.T, seed uint64, n, letters int, f func(table api.Table, p pair, d api.Derivation, err api.Errno)) {
	t.Helper()
	r := rand.New(rand.NewPCG(11, seed))
	counts := map[api.Errno]int{}
	for range n {
		table, p := randomCase(r, pick(r, []int{8, 12, 20}), letters)
		d, err := p.best(table)
		if err != api.OK && err != api.ErrNone {
			t.Fatalf("Best of %v has the error %d, with %v", p, err, table.Rules)
		}
		counts[err]++
		f(table, p, d, err)
	}
	if min(counts[api.OK], counts[api.ErrNone]) < n/5 {
		t.Fatalf("the words have derivations or not: %v", counts)
	}
}

// P11.2: what Best returns is right, and no derivation that is right costs less.
func TestTheBestIsRightAndCheapest(t *testing.T) {
	equal := 0
	eachCase(t, 5, 4000, 4, func(table api.Table, p pair, d api.Derivation, err api.Errno) {
		if p.check(table, d) != (err == api.OK) {
			t.Fatalf("Check of %v, for %v, is %t, with %v", d, p, err != api.OK, table.Rules)
		}
		right := 0
		for _, other := range derivations(table, p) {
			if !p.check(table, other) {
				continue
			}
			right++
			if err != api.OK || other.Cost < d.Cost {
				t.Fatalf("%v is right for %v, but Best is %v, %d, with %v", other, p, d, err, table.Rules)
			}
			if other.Cost == d.Cost && !same(other, d) {
				equal++
			}
		}
		if (right > 0) != (err == api.OK) {
			t.Fatalf("%d derivations are right for %v, but Best has the error %d, with %v", right, p, err, table.Rules)
		}
	})
	if equal < 1000 {
		t.Fatalf("only %d derivations cost as much as the best ones", equal)
	}
}

// P11.3: with both words exchanged, the least cost is the same, and a derivation with Left and Right exchanged is right.
func TestExchangedWords(t *testing.T) {
	others := 0
	eachCase(t, 6, 12000, 12, func(table api.Table, p pair, d api.Derivation, err api.Errno) {
		e, failed := p.swapped().best(table)
		if failed != err || e.Cost != d.Cost {
			t.Fatalf("Best of %v is %v, %d, and that of the exchanged words %v, %d, with %v", p, d, err, e, failed, table.Rules)
		}
		if err == api.OK && (!p.swapped().check(table, exchanged(d)) || !p.check(table, exchanged(e))) {
			t.Fatalf("%v or %v, exchanged, is not right, for %v, with %v", d, e, p, table.Rules)
		}
		if !same(d, exchanged(e)) {
			others++
		}
	})
	if others < 100 {
		t.Fatalf("only %d derivations are other ones when the words are exchanged", others)
	}
}

// sums returns the least sum of the costs of one form for both words, up to a bound for each of them, and false if they have none in common, or too many forms.
func sums(table api.Table, p pair, most int) (least int, common, ok bool) {
	forms, costs, err := rewrite.Forms(table, p.a, p.x, most)
	if err != api.OK {
		return 0, false, false
	}
	others, otherCosts, err := rewrite.Forms(table, p.b, p.y, most)
	if err != api.OK {
		return 0, false, false
	}
	least = math.MaxInt
	for i, form := range forms {
		if j, found := slices.BinarySearch(others, form); found {
			least = min(least, costs[i]+otherCosts[j])
		}
	}
	return least, least < math.MaxInt, true
}

// P11.4: the least cost is the least sum of the costs of one form for both words, up to any bound, and there is no derivation exactly if no form is common.
func TestCostsOfForms(t *testing.T) {
	compared := 0
	eachCase(t, 7, 6000, 7, func(table api.Table, p pair, d api.Derivation, err api.Errno) {
		for _, most := range []int{-1, 0, 1, 2, 3, 1000, d.Cost - 1, d.Cost, d.Cost + 1, math.MaxInt} {
			sum, common, ok := sums(table, p, most)
			if !ok {
				continue
			}
			compared++
			if common && (err != api.OK || sum < d.Cost) {
				t.Fatalf("a form costs %d for %v, but Best is %v, %d, with %v", sum, p, d, err, table.Rules)
			}
			if err == api.OK && most >= d.Cost && (!common || sum != d.Cost) {
				t.Fatalf("a form costs %d (%t) for %v, but Best is %v, with %v", sum, common, p, d, table.Rules)
			}
		}
		if err != api.OK {
			return
		}
		// The form of the derivation is one of both words, and at these costs.
		forms, costs, _ := rewrite.Forms(table, p.a, p.x, d.Cost)
		others, otherCosts, _ := rewrite.Forms(table, p.b, p.y, d.Cost)
		i, ok := slices.BinarySearch(forms, d.Form)
		j, found := slices.BinarySearch(others, d.Form)
		if len(forms) > 0 && len(others) > 0 && (!ok || !found || costs[i]+otherCosts[j] != d.Cost) {
			t.Fatalf("Best of %v is %v, which is no form at this cost, with %v", p, d, table.Rules)
		}
	})
	if compared < 30000 {
		t.Fatalf("only %d times there were not too many forms", compared)
	}
}

// P11.5: capital letters make no difference for both functions.
func TestCapitalLetters(t *testing.T) {
	r := rand.New(rand.NewPCG(11, 8))
	raisedWords := 0
	for range 10000 {
		table, p := randomCase(r, 16, 8)
		if p.a != cased && p.b != cased {
			continue
		}
		fold := pair{p.a, strings.ToLower(p.x), p.b, strings.ToLower(p.y)}
		d, err := fold.best(table)
		others := []pair{p, {p.a, raised(r, p.a, fold.x), p.b, raised(r, p.b, fold.y)}}
		if p.a == cased {
			others = append(others, pair{p.a, strings.ToUpper(p.x), p.b, fold.y})
		}
		if p.b == cased {
			others = append(others, pair{p.a, fold.x, p.b, strings.ToUpper(p.y)})
		}
		for _, other := range others {
			if got, failed := other.best(table); !same(got, d) || failed != err {
				t.Fatalf("Best of %v is %v, %d, and that of %v %v, %d, with %v", other, got, failed, fold, d, err, table.Rules)
			}
			if other.check(table, d) != (err == api.OK) {
				t.Fatalf("Check of %v, for %v, is %t, with %v", d, other, err != api.OK, table.Rules)
			}
			if err == api.OK && other != fold {
				raisedWords++
			}
		}
	}
	if raisedWords < 2000 {
		t.Fatalf("only %d pairs with derivations have capital letters", raisedWords)
	}
}

// P11.6: with a further rule at the end of the table, the least cost is not greater, and a derivation stays right.
func TestFurtherRules(t *testing.T) {
	r := rand.New(rand.NewPCG(11, 9))
	fewer, stayed := 0, 0
	eachCase(t, 10, 8000, 6, func(table api.Table, p pair, d api.Derivation, err api.Errno) {
		script := pick(r, []int{p.a, p.b})
		further := rule(script, randomWord(r, script, pick(r, []int{1, 2, 3})), pick(r, []string{"", "a", "aa", "ab", "b"}), pick(r, []int{0, 0, 1, 1000}))
		more := tableOf(append(slices.Clone(table.Rules), further)...)
		if !rewrite.Valid(more) {
			return
		}
		e, failed := p.best(more)
		if failed != api.OK && err == api.OK || err == api.OK && e.Cost > d.Cost {
			t.Fatalf("Best of %v is %v, %d, and with the rule %v it is %v, %d, with %v", p, d, err, further, e, failed, table.Rules)
		}
		if err == api.OK && !p.check(more, d) {
			t.Fatalf("%v is not right for %v with the rule %v, with %v", d, p, further, table.Rules)
		}
		// What does not use the further rule is right without it.
		if uses := slices.Contains(slices.Concat(e.Left, e.Right), len(table.Rules)); failed == api.OK && p.check(table, e) == uses {
			t.Fatalf("Check of %v, for %v, is %t without the rule %v, with %v", e, p, uses, further, table.Rules)
		}
		if failed == api.OK && (err != api.OK || e.Cost < d.Cost) {
			fewer++
		} else if err == api.OK {
			stayed++
		}
	})
	if min(fewer, stayed) < 300 {
		t.Fatalf("%d pairs are cheaper with a further rule, and %d are not", fewer, stayed)
	}
}

// P11.7: a word and itself have a derivation if the word has a rewriting, at twice the cost of the cheapest one.
func TestAWordAndItself(t *testing.T) {
	r := rand.New(rand.NewPCG(11, 11))
	with, without := 0, 0
	for range 6000 {
		table, p := randomCase(r, pick(r, []int{8, 12}), 6)
		if r.IntN(3) == 0 {
			// Without some rules, words have perhaps no rewriting.
			table.Rules = table.Rules[:(len(table.Rules)+1)/2]
		}
		p.b, p.y = p.a, raised(r, p.a, strings.ToLower(p.x))
		least := math.MaxInt
		for _, one := range rewritings(table, p.a, lettersOf(p.a, p.x)) {
			least = min(least, one.cost)
		}
		d, err := p.best(table)
		if least == math.MaxInt {
			without++
			if err != api.ErrNone || !same(d, api.Derivation{}) {
				t.Fatalf("Best of %v is %v, %d, with %v", p, d, err, table.Rules)
			}
			continue
		}
		with++
		if err != api.OK || d.Cost != 2*least {
			t.Fatalf("Best of %v is %v, %d, and not twice %d, with %v", p, d, err, least, table.Rules)
		}
	}
	if min(with, without) < 1000 {
		t.Fatalf("%d words have rewritings, and %d have none", with, without)
	}
	dear := tableOf(rule(cased, "a'", "", 1000), rule(cased, "a'", "a", 999))
	checkBest(t, dear, pair{cased, "a'", cased, "A'"}, by(1998, "a", "1", "1"), api.OK)
	checkBest(t, dear, pair{cased, rep("a'", 12), cased, rep("A'", 12)}, by(24*999, rep("a", 12), rep("1 ", 12), rep("1 ", 12)), api.OK)
}

// P11.1: rules of other scripts than those of both words, and drops, ends and the costs of a table make no difference, but for the indices of the rules behind them.
func TestRulesOfOtherScripts(t *testing.T) {
	r := rand.New(rand.NewPCG(11, 12))
	found := 0
	for range 4000 {
		table, p := randomCase(r, 12, 5)
		d, err := p.best(table)
		foreign := randomRules(r, all, 40, []int{0})
		var rules []api.Rule
		indices := make([]int, len(table.Rules))
		for i := range table.Rules {
			for range r.IntN(4) {
				if len(foreign) > 0 && foreign[0].Script != p.a && foreign[0].Script != p.b && !slices.ContainsFunc(table.Rules, func(o api.Rule) bool { return o.Script == foreign[0].Script }) {
					rules = append(rules, foreign[0])
				}
				foreign = foreign[min(1, len(foreign)):]
			}
			indices[i] = len(rules)
			rules = append(rules, table.Rules[i])
		}
		more := api.Table{Rules: rules, Drops: drops(r.IntN(40)), Ends: drops(r.IntN(40)), Drop: r.IntN(1001), Order: r.IntN(1001), Initial: r.IntN(1001)}
		want := cloned(d)
		for _, list := range [][]int{want.Left, want.Right} {
			for i, index := range list {
				list[i] = indices[index]
			}
		}
		checkBest(t, more, p, want, err)
		if err == api.OK && len(rules) > len(table.Rules) {
			found++
		}
	}
	if found < 500 {
		t.Fatalf("only %d pairs have derivations among rules of other scripts", found)
	}
}

// P3: equal arguments yield equal results, whatever was asked for before, and whatever became of earlier results.
func TestEqualArgumentsYieldEqualResults(t *testing.T) {
	eachCase(t, 13, 2000, 8, func(table api.Table, p pair, d api.Derivation, err api.Errno) {
		want := cloned(d)
		for _, list := range [][]int{d.Left, d.Right, d.Left[:cap(d.Left)], d.Right[:cap(d.Right)]} {
			for i := range list {
				list[i] = -7
			}
		}
		align.Best(example(), plain, "anna", plain, "ana")
		again := tableOf(slices.Clone(table.Rules)...)
		got, failed := align.Best(again, p.a, strings.Clone(p.x), p.b, strings.Clone(p.y))
		if !same(got, want) || failed != err {
			t.Fatalf("Best of %v is %v, %d, and was %v, %d, with %v", p, got, failed, want, err, table.Rules)
		}
		for range 2 {
			if p.check(again, got) != (err == api.OK) || p.check(again, api.Derivation{Cost: want.Cost, Left: want.Left, Form: want.Form}) {
				t.Fatalf("Check of %v, for %v, is not the same, with %v", got, p, table.Rules)
			}
		}
	})
}

// Results share no memory: Left stays as it is if Right is changed, also behind its end, and so does Right.
func TestResultsShareNoMemory(t *testing.T) {
	for n := 1; n <= 12; n++ {
		table := tableOf(rule(plain, "a", "a", 0), rule(abjad, "b", "a", 0))
		for _, p := range []pair{{plain, rep("a", n), abjad, rep("b", n)}, {abjad, rep("b", n), plain, rep("a", n)}, {plain, rep("a", n), plain, rep("a", n)}} {
			d, _ := p.best(table)
			want := cloned(d)
			right := append(d.Right, 7, 7, 7)
			for i := range right {
				right[i] = 7
			}
			if !slices.Equal(d.Left, want.Left) {
				t.Fatalf("Left of %v became %v", p, d.Left)
			}
			d, _ = p.best(table)
			left := append(d.Left, 7, 7, 7)
			for i := range left {
				left[i] = 7
			}
			if !slices.Equal(d.Right, want.Right) {
				t.Fatalf("Right of %v became %v", p, d.Right)
			}
		}
	}
}

// roomy returns a copy of a list with one more element behind its end.
func roomy[T any](l []T, more T) []T {
	return append(append(make([]T, 0, len(l)+1), l...), more)[:len(l)]
}

// No call changes its arguments, nor what is behind the ends of their lists.
func TestArgumentsAreNotChanged(t *testing.T) {
	eachCase(t, 14, 2000, 6, func(table api.Table, p pair, d api.Derivation, err api.Errno) {
		if err != api.OK {
			d = by(1, "a", "3 1 2 0", "1 0")
		}
		given := func() (api.Table, api.Derivation) {
			return api.Table{Rules: roomy(table.Rules, rule(plain, "zzz", "zzz", 5)), Drops: roomy(drops(3), drop(plain, "zzz", 5)), Ends: roomy(drops(3), drop(plain, "zzz", 5))}, api.Derivation{Cost: d.Cost, Left: roomy(d.Left, 99), Right: roomy(d.Right, 99), Form: d.Form}
		}
		whole := func(t api.Table, d api.Derivation) []any {
			return []any{t.Rules[:cap(t.Rules)], t.Drops[:cap(t.Drops)], t.Ends[:cap(t.Ends)], t.Drop, t.Order, t.Initial, d.Left[:cap(d.Left)], d.Right[:cap(d.Right)], d.Cost, d.Form}
		}
		t1, d1 := given()
		t2, d2 := given()
		p.best(t1)
		p.check(t1, d1)
		p.swapped().check(t1, d1)
		if !reflect.DeepEqual(whole(t1, d1), whole(t2, d2)) {
			t.Fatalf("the arguments for %v were changed, with %v", p, table.Rules)
		}
	})
}
