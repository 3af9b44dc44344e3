package potential_test

import (
	"maps"
	"math/rand/v2"
	"reflect"
	"slices"
	"strings"
	"testing"

	"customhouse/align"
	"customhouse/api"
	"customhouse/potential"
	"customhouse/rewrite"
)

// eachCase calls a function with tables, pairs of words, and what is known about them. It fails a test if fewer than a fifth of the pairs have a derivation, or if fewer have none.
func eachCase(t *testing.T, seed uint64, n, letters int, f func(r *rand.Rand, table api.Table, p pair, m solved)) {
	t.Helper()
	r := rand.New(rand.NewPCG(12, seed))
	found := 0
	for range n {
		table, p := randomCase(r, pick(r, []int{8, 12, 16}), letters)
		m := newSolved(table, p)
		if m.least() < endless {
			found++
		}
		f(r, table, p, m)
	}
	if min(found, n-found) < n/5 {
		t.Fatalf("%d of %d pairs have derivations", found, n)
	}
}

// eachHolding calls a function with certificates that hold for a positive bound: those of Make, and others. It fails a test if there are not many of both.
func eachHolding(t *testing.T, seed uint64, n, letters int, f func(r *rand.Rand, m solved, one certificate)) {
	t.Helper()
	made, others := 0, 0
	eachCase(t, seed, n, letters, func(r *rand.Rand, table api.Table, p pair, m solved) {
		if bound := min(m.least(), pick(r, []int{1, 5, 100000})); bound > 0 {
			l, err := p.make(table, bound)
			if err != api.OK || !p.check(table, bound, l) {
				t.Fatalf("Make of %v and %d is %v, %d, with %v", p, bound, l, err, table.Rules)
			}
			made++
			f(r, m, certificate{table, p, bound, l})
		}
		if bound, l := randomHolding(r, m); bound > 0 {
			if !p.check(table, bound, l) {
				t.Fatalf("Check of %v, for %v and %d, is false, with %v", l, p, bound, table.Rules)
			}
			others++
			f(r, m, certificate{table, p, bound, l})
		}
	})
	if min(made, others) < n/4 {
		t.Fatalf("%d certificates are made, and %d are others", made, others)
	}
}

// P12.2: if Check finds that a certificate holds for a bound, no derivation costs less; this is also true of certificates that come from others by changes.
func TestNoDerivationCostsLess(t *testing.T) {
	exact, below := 0, 0
	eachHolding(t, 5, 800, 4, func(r *rand.Rand, m solved, one certificate) {
		d, err := align.Best(one.table, one.pair.a, one.pair.x, one.pair.b, one.pair.y)
		least := leastOf(one.table, one.pair, place{})
		if err == api.OK && d.Cost != least || (err == api.OK) != (least < endless) {
			t.Fatalf("the least cost of %v is %d, and not %d, with %v", one.pair, least, d.Cost, one.table.Rules)
		}
		l, bound := one.list, one.bound
		for range 30 {
			if one.pair.check(one.table, bound, l) && least < bound {
				t.Fatalf("%v holds for %v and %d, but a derivation costs %d, with %v", l, one.pair, bound, least, one.table.Rules)
			}
			if least == bound {
				exact++
			} else {
				below++
			}
			l, bound = changed(r, one.list, one.bound), one.bound+r.IntN(2)
			for i := range l {
				l[i].H += r.IntN(2)
			}
		}
	})
	if min(exact, below) < 1000 {
		t.Fatalf("%d bounds are the least cost, and %d are less", exact, below)
	}
}

// P12.2: of all lists of H's for some states of two words, those that hold are known for each bound, and none holds for a bound that is greater than the least cost.
func TestNothingHoldsForGreaterBounds(t *testing.T) {
	table := tableOf(rule(plain, "a", "x", 1), rule(plain, "b", "x", 2), rule(plain, "b", "xy", 0))
	p := pair{plain, "a", plain, "b"}
	counts := map[int]int{}
	for n := range 6 * 6 * 6 * 6 {
		var l []api.Potential
		for i, one := range list("0 0 0; 1 0 x 0; 1 1 y 0; 1 1 >y 0") {
			one.H = n / []int{1, 6, 36, 216}[i] % 6
			if one.H > 0 {
				l = append(l, one)
			}
		}
		for bound := 1; bound < 8; bound++ {
			if p.check(table, bound, l) {
				counts[bound]++
			}
		}
	}
	// The first H is the bound; the second one is at most 2, at most the last one, and at least 1 less than the bound; the third one is any one up to the bound.
	if want := map[int]int{1: 3 * 2, 2: 3 * 3, 3: 2 * 4}; !maps.Equal(counts, want) {
		t.Fatalf("for the bounds, certificates hold: %v", counts)
	}
	for bound := range 8 {
		want := api.OK
		if bound > 3 {
			want = api.ErrNone
		}
		if l, err := p.make(table, bound); err != want || p.check(table, bound, l) != (err == api.OK) {
			t.Fatalf("Make for %d is %v, %d", bound, l, err)
		}
	}
}

// P12.3: Make has a certificate that holds for each bound up to the least cost of a derivation, and for each one up to MaxBound if there is none; for greater ones it has ErrNone.
func TestMakeForEachBound(t *testing.T) {
	none, failed := 0, 0
	eachCase(t, 6, 1000, 6, func(r *rand.Rand, table api.Table, p pair, m solved) {
		d, err := align.Best(table, p.a, p.x, p.b, p.y)
		tried := []int{0, 1, d.Cost - 1, d.Cost, d.Cost + 1, d.Cost + 2, 2 * d.Cost, 24000, 24001, 99999, 100000, r.IntN(100001), r.IntN(d.Cost + 1)}
		for _, bound := range tried {
			if bound < 0 {
				continue
			}
			want := api.OK
			if err == api.OK && d.Cost < bound {
				want = api.ErrNone
				failed++
			} else if err == api.ErrNone {
				none++
			}
			l, got := p.make(table, bound)
			if got != want || got != api.OK && len(l) > 0 {
				t.Fatalf("Make of %v and %d is %v, %d, with %v", p, bound, l, got, table.Rules)
			}
			if got == api.OK && !p.check(table, bound, l) {
				t.Fatalf("%v does not hold for %v and %d, with %v", l, p, bound, table.Rules)
			}
		}
	})
	if min(none, failed) < 1000 {
		t.Fatalf("%d times there is no derivation, and %d times one that costs less", none, failed)
	}
	// Words without a common form, for each bound.
	for bound := range 100001 {
		p := pair{plain, "x", plain, "a"}
		if l, err := p.make(example(), bound); err != api.OK || len(l) != min(bound, 1) || bound > 0 && l[0] != (api.Potential{H: bound}) {
			t.Fatalf("Make of %v and %d is %v, %d", p, bound, l, err)
		}
	}
}

// P12.4: the H of a state with nothing ahead is not greater than the cost of any derivation of what is left of both words.
func TestStatesWithNothingAhead(t *testing.T) {
	compared, equal := 0, 0
	eachHolding(t, 7, 1200, 5, func(r *rand.Rand, m solved, one certificate) {
		for _, state := range one.list {
			if state.Ahead != "" {
				continue
			}
			if least := leastOf(one.table, one.pair, placeOf(state)); state.H > least {
				t.Fatalf("%v is in a certificate that holds for %v, but what is left costs %d, with %v", state, one.pair, least, one.table.Rules)
			} else if state.H == least {
				equal++
			}
			if state.I == len(m.left) || state.J == len(m.right) {
				continue
			}
			rest := pair{one.pair.a, strings.Join(m.left[state.I:], ""), one.pair.b, strings.Join(m.right[state.J:], "")}
			d, err := align.Best(one.table, rest.a, rest.x, rest.b, rest.y)
			if err == api.OK && d.Cost < state.H || err == api.ErrArg {
				t.Fatalf("%v is in a certificate that holds for %v, but Best of %v is %v, %d, with %v", state, one.pair, rest, d, err, one.table.Rules)
			}
			if err == api.OK {
				compared++
			}
		}
	})
	if min(compared, equal) < 500 {
		t.Fatalf("%d states have derivations of what is left, and %d have their cost", compared, equal)
	}
}

// P12.5: the certificate of a lesser bound that is not 0 has the same states, with the lesser one of H and this bound. That of a greater bound does not hold for it.
func TestLesserBounds(t *testing.T) {
	cut := 0
	eachCase(t, 8, 1500, 6, func(r *rand.Rand, table api.Table, p pair, m solved) {
		most := min(m.least(), 100000)
		if most < 2 {
			return
		}
		l, err := p.make(table, most)
		if err != api.OK {
			t.Fatalf("Make of %v and %d has the error %d, with %v", p, most, err, table.Rules)
		}
		for _, bound := range []int{1, 2, most - 1, most, 1 + r.IntN(most), 1 + r.IntN(min(most, 5))} {
			want := lesser(l, bound)
			if got, err := p.make(table, bound); !slices.Equal(got, want) || len(got) != len(l) || err != api.OK {
				t.Fatalf("Make of %v and %d is %v, %d, and for %d it is %v, with %v", p, bound, got, err, most, l, table.Rules)
			}
			if bound < most && (p.check(table, most, want) || p.check(table, bound, l)) {
				t.Fatalf("a certificate of %v for %d holds for %d, or the other way round, with %v", p, most, bound, table.Rules)
			}
			if l[len(l)-1].H > bound {
				cut++
			}
		}
	})
	if cut < 1000 {
		t.Fatalf("only %d bounds are less than the last H", cut)
	}
}

// P12.6: a certificate holds for the table without one of its rules.
func TestFewerRules(t *testing.T) {
	greater := 0
	eachHolding(t, 9, 500, 5, func(r *rand.Rand, m solved, one certificate) {
		for i := range one.table.Rules {
			fewer := tableOf(slices.Delete(slices.Clone(one.table.Rules), i, i+1)...)
			if len(fewer.Rules) == 0 {
				continue
			}
			if !one.pair.check(fewer, one.bound, one.list) {
				t.Fatalf("%v does not hold for %v and %d without the rule %d of %v", one.list, one.pair, one.bound, i, one.table.Rules)
			}
			if newSolved(fewer, one.pair).least() > m.least() {
				greater++
			}
		}
	})
	if greater < 200 {
		t.Fatalf("the least cost was only %d times greater without a rule", greater)
	}
	one := tableOf(rule(plain, "a", "a", 1))
	checkVerdict(t, one, pair{plain, "a", plain, "a"}, 2, list("0 0 2; 1 0 a 1"), true)
	checkVerdict(t, api.Table{}, pair{plain, "a", plain, "a"}, 2, list("0 0 2; 1 0 a 1"), false)
}

// P12.7: a certificate holds if rules cost more, one of them or several, up to the greatest cost.
func TestDearerRules(t *testing.T) {
	greater := 0
	eachHolding(t, 10, 1200, 5, func(r *rand.Rand, m solved, one certificate) {
		dearer := tableOf(slices.Clone(one.table.Rules)...)
		for range 1 + r.IntN(4) {
			i := r.IntN(len(dearer.Rules))
			dearer.Rules[i].Cost = min(1000, dearer.Rules[i].Cost+pick(r, []int{1, 2, 100, 1000}))
		}
		if !one.pair.check(dearer, one.bound, one.list) {
			t.Fatalf("%v holds for %v and %d with %v, but not with %v", one.list, one.pair, one.bound, one.table.Rules, dearer.Rules)
		}
		if newSolved(dearer, one.pair).least() > m.least() {
			greater++
		}
	})
	if greater < 200 {
		t.Fatalf("the least cost was only %d times greater with dearer rules", greater)
	}
	// Beyond the greatest cost the table is not valid.
	one := tableOf(rule(plain, "a", "a", 1000))
	l := list("0 0 2000; 1 0 a 1000")
	checkVerdict(t, one, pair{plain, "a", plain, "a"}, 2000, l, true)
	one.Rules[0].Cost = 1001
	checkVerdict(t, one, pair{plain, "a", plain, "a"}, 2000, l, false)
}

// P12.8: with both words exchanged, Make has the same error.
func TestExchangedWords(t *testing.T) {
	counts := map[api.Errno]int{}
	others := 0
	eachCase(t, 11, 1500, 6, func(r *rand.Rand, table api.Table, p pair, m solved) {
		if r.IntN(20) == 0 {
			p.y = pick(r, []string{"", "-", p.y + " ", rep(p.y, 13)})
		}
		if r.IntN(40) == 0 {
			table.Rules = append(table.Rules, table.Rules[0])
		}
		for _, bound := range bounds(r, m.least()) {
			l, err := p.make(table, bound)
			e, failed := p.swapped().make(table, bound)
			if failed != err || (len(e) == 0) != (len(l) == 0) {
				t.Fatalf("Make of %v and %d is %v, %d, and that of the exchanged words %v, %d, with %v", p, bound, l, err, e, failed, table.Rules)
			}
			counts[err]++
			if err == api.OK && !slices.Equal(l, e) {
				others++
			}
		}
	})
	if min(counts[api.OK], counts[api.ErrNone], counts[api.ErrArg], others) < 500 {
		t.Fatalf("the errors are %v, and %d certificates are other ones when the words are exchanged", counts, others)
	}
}

// P12.9: a certificate that holds for a positive bound holds for no other bound.
func TestOneBound(t *testing.T) {
	eachHolding(t, 12, 800, 6, func(r *rand.Rand, m solved, one certificate) {
		for _, bound := range []int{one.bound - 1, one.bound + 1, 0, -1, -one.bound, 1, 2, 100000, 100001, r.IntN(100000), r.IntN(one.bound + 10), one.bound + 1<<32, one.bound - 1<<32, one.bound + 1<<8} {
			if bound != one.bound && one.pair.check(one.table, bound, one.list) {
				t.Fatalf("%v holds for %v and %d, and for %d, with %v", one.list, one.pair, one.bound, bound, one.table.Rules)
			}
		}
	})
}

// P12.1: capital letters make no difference, as words are folded first.
func TestCapitalLetters(t *testing.T) {
	raisedWords := 0
	eachCase(t, 13, 2000, 6, func(r *rand.Rand, table api.Table, p pair, m solved) {
		if p.a != cased && p.b != cased {
			return
		}
		fold := pair{p.a, strings.ToLower(p.x), p.b, strings.ToLower(p.y)}
		for _, bound := range []int{0, 1, min(m.least(), 100000), 100000} {
			want, err := fold.make(table, bound)
			for _, other := range []pair{p, {p.a, raised(r, p.a, fold.x), p.b, raised(r, p.b, fold.y)}} {
				if got, failed := other.make(table, bound); !slices.Equal(got, want) || failed != err {
					t.Fatalf("Make of %v and %d is %v, %d, and that of %v %v, %d, with %v", other, bound, got, failed, fold, want, err, table.Rules)
				}
				if other.check(table, bound, want) != (err == api.OK) {
					t.Fatalf("Check of %v, for %v and %d, is %t, with %v", want, other, bound, err != api.OK, table.Rules)
				}
				if len(want) > 0 && other != fold {
					raisedWords++
				}
			}
		}
	})
	if raisedWords < 500 {
		t.Fatalf("only %d pairs with certificates have capital letters", raisedWords)
	}
}

// P12.1: the order of rules, rules of other scripts than those of both words, and drops, ends and the costs of a table make no difference.
func TestRulesOfOtherScripts(t *testing.T) {
	found := 0
	eachCase(t, 14, 1500, 5, func(r *rand.Rand, table api.Table, p pair, m solved) {
		more := api.Table{Rules: shuffled(r, table.Rules), Drops: drops(r.IntN(40)), Ends: drops(r.IntN(40)), Drop: r.IntN(1001), Order: r.IntN(1001), Initial: r.IntN(1001)}
		scripts := map[int]bool{}
		for _, one := range table.Rules {
			scripts[one.Script] = true
		}
		for _, one := range randomRules(r, all, 40, []int{0}) {
			if !scripts[one.Script] && len(more.Rules) < 80 {
				more.Rules = slices.Insert(more.Rules, r.IntN(len(more.Rules)+1), one)
			}
		}
		bound := min(m.least(), 100000)
		want, err := m.wanted(bound)
		checkMake(t, more, p, bound, want, err)
		if len(want) > 0 && len(more.Rules) > len(table.Rules) && rewrite.Valid(more) {
			found++
		}
	})
	if found < 300 {
		t.Fatalf("only %d pairs have certificates among rules of other scripts", found)
	}
}

// P3: equal arguments yield equal results, whatever was asked for before, and whatever became of earlier results.
func TestEqualArgumentsYieldEqualResults(t *testing.T) {
	eachCase(t, 15, 800, 6, func(r *rand.Rand, table api.Table, p pair, m solved) {
		bound := min(m.least(), 100000)
		first, err := p.make(table, bound)
		want := slices.Clone(first)
		all := first[:cap(first)]
		for i := range all {
			all[i] = api.Potential{I: -7, Ahead: "?"}
		}
		potential.Make(example(), plain, "ab", plain, "ac", 2)
		again := tableOf(slices.Clone(table.Rules)...)
		got, failed := potential.Make(again, p.a, strings.Clone(p.x), p.b, strings.Clone(p.y), bound)
		if !slices.Equal(got, want) || failed != err {
			t.Fatalf("Make of %v and %d is %v, %d, and was %v, %d, with %v", p, bound, got, failed, want, err, table.Rules)
		}
		for range 2 {
			if !p.check(again, bound, want) || p.check(again, bound+1, want) || bound > 0 && p.check(again, bound, want[1:]) {
				t.Fatalf("Check of %v, for %v and %d, is not the same, with %v", want, p, bound, table.Rules)
			}
		}
	})
}

// roomy returns a copy of a list with one more element behind its end.
func roomy[T any](l []T, more T) []T {
	return append(append(make([]T, 0, len(l)+1), l...), more)[:len(l)]
}

// No call changes its arguments, nor what is behind the ends of their lists.
func TestArgumentsAreNotChanged(t *testing.T) {
	eachCase(t, 16, 800, 6, func(r *rand.Rand, table api.Table, p pair, m solved) {
		bound := min(m.least(), 100000)
		l, _ := p.make(table, bound)
		if r.IntN(2) == 0 {
			l = shuffled(r, append(l, api.Potential{I: 1, H: 7}))
		}
		given := func() (api.Table, []api.Potential) {
			return api.Table{Rules: roomy(table.Rules, rule(plain, "zzz", "zzz", 5)), Drops: roomy(drops(3), drop(plain, "zzz", 5)), Ends: roomy(drops(3), drop(plain, "zzz", 5))}, roomy(l, api.Potential{I: 99})
		}
		whole := func(t api.Table, l []api.Potential) []any {
			return []any{t.Rules[:cap(t.Rules)], t.Drops[:cap(t.Drops)], t.Ends[:cap(t.Ends)], t.Drop, t.Order, t.Initial, l[:cap(l)]}
		}
		t1, l1 := given()
		t2, l2 := given()
		p.make(t1, bound)
		p.make(t1, bound+1)
		p.check(t1, bound, l1)
		p.swapped().check(t1, bound, l1)
		if !reflect.DeepEqual(whole(t1, l1), whole(t2, l2)) {
			t.Fatalf("the arguments for %v were changed, with %v", p, table.Rules)
		}
	})
}
