package align_test

import (
	"math"
	"math/rand/v2"
	"slices"
	"testing"

	"customhouse/api"
)

// checkRight fails a test if Check does not find a derivation right, or if the test is wrong about it.
func checkRight(t *testing.T, table api.Table, p pair, d api.Derivation) {
	t.Helper()
	checkVerdict(t, table, p, d, true)
}

// checkWrong fails a test if Check finds a derivation right, or if the test is wrong about it.
func checkWrong(t *testing.T, table api.Table, p pair, d api.Derivation) {
	t.Helper()
	checkVerdict(t, table, p, d, false)
}

// checkVerdict fails a test if Check, or looking at all derivations, says something else about one.
func checkVerdict(t *testing.T, table api.Table, p pair, d api.Derivation, want bool) {
	t.Helper()
	if got := p.check(table, d); got != want {
		t.Fatalf("Check of %v, for %v, is %t, with %v", d, p, got, table.Rules)
	}
	if isRight(table, p, d) != want {
		t.Fatalf("%v, for %v, is not what the test says, with %v", d, p, table.Rules)
	}
}

// stretched is a table with rules that turn few letters into texts of different lengths.
func stretched() api.Table {
	return tableOf(rule(plain, "a", "a", 3), rule(plain, "a", "aa", 5), rule(plain, "aa", "a", 1), rule(plain, "a", "", 1000), rule(abjad, "b", "a", 0), rule(abjad, "bb", "a", 2), rule(abjad, "'", "", 7))
}

// P11.1, K2: derivations are right at any cost, also if they are not the cheapest ones, or not the first ones.
func TestCheckOfRightDerivations(t *testing.T) {
	for _, test := range []struct {
		table api.Table
		pair  pair
		by    api.Derivation
	}{
		{example(), pair{plain, "ana", plain, "ana"}, by(0, "ana", "0 1 0", "0 1 0")},
		{example(), pair{plain, "anna", plain, "ana"}, by(1, "ana", "0 2 0", "0 1 0")},
		{example(), pair{plain, "na", abjad, "n"}, by(2, "na", "1 0", "4")},
		{example(), pair{plain, "anna", plain, "anna"}, by(0, "anna", "0 1 1 0", "0 1 1 0")},
		{example(), pair{plain, "anna", plain, "anna"}, by(2, "ana", "0 2 0", "0 2 0")},
		{example(), pair{plain, "nnn", plain, "nnn"}, by(2, "nn", "1 2", "2 1")},
		{example(), pair{plain, "nnn", plain, "nnn"}, by(2, "nn", "2 1", "1 2")},
		{example(), pair{plain, "nnn", plain, "nn"}, by(1, "nn", "2 1", "1 1")},
		{example(), pair{abjad, "nn", abjad, "nn"}, by(8, "nana", "4 4", "4 4")},
		{example(), pair{abjad, "nn", abjad, "nn"}, by(4, "nna", "3 4", "3 4")},
		{stretched(), pair{plain, "a", plain, "a"}, by(6, "a", "0", "0")},
		{stretched(), pair{plain, "a", plain, "a"}, by(10, "aa", "1", "1")},
		{stretched(), pair{plain, "a", plain, "a"}, by(2000, "", "3", "3")},
		{stretched(), pair{plain, "aa", plain, "a"}, by(1006, "a", "0 3", "0")},
		{stretched(), pair{plain, "aa", plain, "a"}, by(1006, "a", "3 0", "0")},
		{stretched(), pair{plain, "aa", plain, "a"}, by(4, "a", "2", "0")},
		{stretched(), pair{plain, "aaa", abjad, "'bb'b"}, by(1022, "aaa", "1 0 3", "6 4 4 6 4")},
		{stretched(), pair{plain, "aaa", abjad, "'bb'b"}, by(1022, "aaa", "3 1 0", "6 4 4 6 4")},
		{stretched(), pair{plain, "aaa", abjad, "'bb'b"}, by(1022, "aa", "3 0 0", "6 5 6 4")},
		{stretched(), pair{plain, "aaa", abjad, "'bb'b"}, by(20, "aa", "2 0", "6 5 6 4")},
		{stretched(), pair{plain, "aaa", abjad, "'bb'b"}, by(20, "aaa", "2 1", "6 4 4 6 4")},
		{scripts(), pair{cased, "A'N^", cased, "AN^"}, by(1, "any", "12", "7 3")},
		{scripts(), pair{syllab, "nana", plain, "nana"}, by(0, "nana", "0 0", "1 6 1 6")},
	} {
		checkRight(t, test.table, test.pair, test.by)
		checkRight(t, test.table, test.pair.swapped(), exchanged(test.by))
	}
}

// P11.1, K2: derivations that are wrong in one thing each.
func TestCheckOfWrongDerivations(t *testing.T) {
	p := pair{plain, "anna", plain, "ana"}
	good := by(1, "ana", "0 2 0", "0 1 0")
	checkRight(t, example(), p, good)
	for _, d := range []api.Derivation{
		{}, {Cost: 1, Form: "ana"}, {Left: []int{}, Right: []int{}}, by(0, "", "", ""), by(0, "ana", "", "0 1 0"), by(1, "ana", "0 2 0", ""), by(1, "ana", "", ""),
		// Forms that are not those of the rules.
		by(1, "", "0 2 0", "0 1 0"), by(1, "an", "0 2 0", "0 1 0"), by(1, "na", "0 2 0", "0 1 0"), by(1, "anaa", "0 2 0", "0 1 0"), by(1, "anna", "0 2 0", "0 1 0"), by(1, "ANA", "0 2 0", "0 1 0"), by(1, "aba", "0 2 0", "0 1 0"), by(1, "ana ", "0 2 0", "0 1 0"), by(1, "anaana", "0 2 0", "0 1 0"),
		// Two sides with different forms, of which each may be the Form.
		by(0, "anna", "0 1 1 0", "0 1 0"), by(0, "ana", "0 1 1 0", "0 1 0"), by(0, "annaana", "0 1 1 0", "0 1 0"),
		// Lists that stop before the end, or go beyond it, on one side or both.
		by(1, "an", "0 2", "0 1"), by(1, "ana", "0 2", "0 1 0"), by(1, "an", "0 2", "0 1 0"), by(1, "ana", "0 2 0", "0 1"), by(0, "a", "0", "0"), by(1, "anaa", "0 2 0 0", "0 1 0 0"), by(1, "ana", "0 2 0 0", "0 1 0"), by(1, "ana", "0 2 0", "0 1 0 0"), by(2, "anan", "0 2 0 2", "0 1 0 1"), by(1, "na", "2 0", "1 0"),
		// Lists whose From's are not the letters of the word.
		by(0, "ana", "0 1 0", "0 1 0"), by(0, "anna", "0 1 1 0", "0 1 1 0"), by(2, "ana", "0 2 0", "0 2 0"), by(1, "ana", "0 1 0", "0 2 0"), by(1, "ana", "2 0 0", "0 1 0"), by(1, "aan", "0 0 2", "0 0 1"), by(1, "nan", "2 0 2", "1 0 1"), by(1, "ana", "0 2 1", "0 1 0"), by(1, "ana", "1 2 0", "0 1 0"),
		// Rules of another script that write the same.
		by(0, "anna", "0 3 3 0", "0 1 0"), by(1, "ana", "0 2 0", "0 3 0"), by(3, "ana", "0 2 0", "0 4"), by(2, "ana", "0 4", "0 1 0"),
		// Indices of no rules, on either side and at each place.
		by(1, "ana", "-1 2 0", "0 1 0"), by(1, "ana", "0 -1 0", "0 1 0"), by(1, "ana", "0 2 -1", "0 1 0"), by(1, "ana", "0 2 0 -1", "0 1 0"), by(1, "ana", "-1 0 2 0", "0 1 0"), by(1, "ana", "0 2 0", "-1 1 0"), by(1, "ana", "0 2 0", "0 1 0 -1"), by(1, "ana", "0 2 0", "0 -5 0"),
		by(1, "ana", "5 2 0", "0 1 0"), by(1, "ana", "0 5 0", "0 1 0"), by(1, "ana", "0 2 5", "0 1 0"), by(1, "ana", "0 2 0 5", "0 1 0"), by(1, "ana", "0 2 0", "5 1 0"), by(1, "ana", "0 2 0", "0 6 0"), by(1, "ana", "0 2 0", "0 1 0 5"), by(1, "ana", "0 2 80", "0 1 80"),
		// The sides exchanged.
		by(1, "ana", "0 1 0", "0 2 0"),
	} {
		checkWrong(t, example(), p, d)
		checkWrong(t, example(), p.swapped(), exchanged(d))
	}
	for _, cost := range []int{0, 2, -1, 3, 1001, 1 + 1<<32, 1 + 1<<8, 1 + 1<<16, math.MaxInt, math.MinInt, math.MinInt + 1} {
		d := cloned(good)
		d.Cost = cost
		checkWrong(t, example(), p, d)
	}
	for _, index := range []int{math.MaxInt, math.MinInt, 1 << 32, 1<<32 + 2, 256 + 2, -1 << 63} {
		for _, d := range []api.Derivation{{Left: []int{0, index, 0}, Right: good.Right}, {Left: []int{index, 2, 0}, Right: good.Right}, {Left: []int{0, 2, 0, index}, Right: good.Right}, {Left: good.Left, Right: []int{0, 1, index}}, {Left: []int{index}, Right: []int{index}}} {
			d.Cost, d.Form = 1, "ana"
			checkWrong(t, example(), p, d)
		}
	}
}

// P11.1, K2: the Cost is that of both sides, and not of one of them, also if one of them costs nothing.
func TestCheckOfCosts(t *testing.T) {
	table := tableOf(rule(plain, "a", "a", 3), rule(plain, "b", "a", 5), rule(plain, "c", "a", 0), rule(plain, "d", "", 7), rule(plain, "e", "a", 1000))
	for _, test := range []struct {
		pair  pair
		left  string
		right string
		want  int
	}{
		{pair{plain, "a", plain, "b"}, "0", "1", 8}, {pair{plain, "b", plain, "a"}, "1", "0", 8}, {pair{plain, "a", plain, "a"}, "0", "0", 6}, {pair{plain, "a", plain, "c"}, "0", "2", 3}, {pair{plain, "c", plain, "b"}, "2", "1", 5}, {pair{plain, "c", plain, "c"}, "2", "2", 0},
		{pair{plain, "ad", plain, "b"}, "0 3", "1", 15}, {pair{plain, "a", plain, "dbd"}, "0", "3 1 3", 22}, {pair{plain, "e", plain, "e"}, "4", "4", 2000},
	} {
		for _, cost := range []int{0, 3, 5, 6, 7, 8, 10, 14, 15, 22, 1000, 2000, test.want - 1, test.want, test.want + 1, -test.want - 1} {
			checkVerdict(t, table, test.pair, by(cost, "a", test.left, test.right), cost == test.want)
		}
	}
	p := pair{plain, rep("e", 12), plain, rep("e", 12)}
	for _, cost := range []int{0, 12000, 23999, 24000, 24001} {
		checkVerdict(t, table, p, by(cost, rep("a", 12), rep("4 ", 12), rep("4 ", 12)), cost == 24000)
	}
}

// P11.1, K1 and K2: the letters of From's, and not their bytes, are those of a word; a rule of one letter is none for a longer letter.
func TestLettersOfTwoBytes(t *testing.T) {
	parts := tableOf(rule(syllab, "n", "n", 0), rule(syllab, "a", "a", 0), rule(syllab, "an", "an", 0), rule(cased, "a", "a", 0), rule(cased, "n", "n", 0), rule(plain, "n", "n", 0), rule(plain, "a", "a", 0))
	for _, test := range []struct {
		pair pair
		want api.Derivation
		err  api.Errno
	}{
		{pair{syllab, "na", plain, "na"}, api.Derivation{}, api.ErrNone}, {pair{plain, "na", syllab, "na"}, api.Derivation{}, api.ErrNone}, {pair{syllab, "ana", plain, "ana"}, api.Derivation{}, api.ErrNone}, {pair{syllab, "ana", syllab, "ana"}, api.Derivation{}, api.ErrNone},
		{pair{syllab, "nn", plain, "nn"}, by(0, "nn", "0 0", "5 5"), api.OK}, {pair{syllab, "an", plain, "an"}, by(0, "an", "1 0", "6 5"), api.OK}, {pair{syllab, "aa", plain, "aa"}, by(0, "aa", "1 1", "6 6"), api.OK},
		{pair{cased, "na'", plain, "na"}, api.Derivation{}, api.ErrNone}, {pair{cased, "n^a", plain, "na"}, api.Derivation{}, api.ErrNone}, {pair{cased, "NA", plain, "na"}, by(0, "na", "4 3", "5 6"), api.OK},
	} {
		checkBest(t, parts, test.pair, test.want, test.err)
	}
	for _, d := range []api.Derivation{by(0, "na", "0 1", "5 6"), by(0, "na", "0 1", "0 1"), by(0, "na", "4 3", "5 6"), by(0, "na", "5 6", "5 6")} {
		checkWrong(t, parts, pair{syllab, "na", plain, "na"}, d)
		checkWrong(t, parts, pair{syllab, "na", syllab, "na"}, d)
		checkWrong(t, parts, pair{cased, "na'", plain, "na"}, d)
		checkWrong(t, parts, pair{cased, "n`a", plain, "na"}, d)
	}
	for _, d := range []api.Derivation{by(0, "ana", "1 0 1", "6 5 6"), by(0, "ana", "2 1", "6 5 6")} {
		checkWrong(t, parts, pair{syllab, "ana", plain, "ana"}, d)
	}
	checkRight(t, parts, pair{syllab, "aan", plain, "aan"}, by(0, "aan", "1 2", "6 6 5"))
	checkRight(t, parts, pair{syllab, "aan", plain, "aan"}, by(0, "aan", "1 1 0", "6 6 5"))
}

// changed returns a derivation in which something was changed at random, for a table with so many rules.
func changed(r *rand.Rand, d api.Derivation, rules int) api.Derivation {
	d = cloned(d)
	list := pick(r, []*[]int{&d.Left, &d.Right})
	place := r.IntN(len(*list))
	switch r.IntN(8) {
	case 0, 1:
		(*list)[place] = r.IntN(rules+2) - 1
	case 2:
		*list = slices.Insert(*list, place+r.IntN(2), r.IntN(rules))
	case 3:
		*list = slices.Delete(*list, place, place+1)
	case 4:
		*list = append(*list, r.IntN(rules))
	case 5:
		d.Cost += pick(r, []int{-1, 1, 2})
	case 6:
		d.Form = pick(r, []string{d.Form + "a", "", "a", "ab" + d.Form})
	case 7:
		other := r.IntN(len(*list))
		(*list)[place], (*list)[other] = (*list)[other], (*list)[place]
	}
	return d
}

// P11.1, K2: Check agrees with looking at all derivations, about each of them and about what comes from them by one change, with the cost and the form put right or not.
func TestCheckAgreesWithAllDerivations(t *testing.T) {
	r := rand.New(rand.NewPCG(11, 4))
	counts := map[bool]int{}
	for range 3000 {
		table, p := randomCase(r, pick(r, []int{8, 12}), 4)
		l := derivations(table, p)
		if len(l) > 300 || len(l) == 0 {
			continue
		}
		for _, d := range l {
			if !p.check(table, d) || !p.swapped().check(table, exchanged(d)) {
				t.Fatalf("%v is not right for %v, with %v", d, p, table.Rules)
			}
		}
		for range 20 {
			d := changed(r, pick(r, l), len(table.Rules))
			if r.IntN(2) == 0 {
				d.Cost, d.Form = summed(table, d)
			}
			want := slices.ContainsFunc(l, func(e api.Derivation) bool { return same(d, e) })
			if p.check(table, d) != want {
				t.Fatalf("Check of %v, for %v, is %t, with %v", d, p, !want, table.Rules)
			}
			counts[want]++
		}
	}
	if min(counts[true], counts[false]) < 2000 {
		t.Fatalf("the derivations are right or not: %v", counts)
	}
}

// summed returns the cost of all rules of a derivation, and the form of the left ones.
func summed(table api.Table, d api.Derivation) (int, string) {
	cost, form := 0, ""
	for _, i := range slices.Concat(d.Left, d.Right) {
		if i >= 0 && i < len(table.Rules) {
			cost += table.Rules[i].Cost
		}
	}
	for _, i := range d.Left {
		if i >= 0 && i < len(table.Rules) {
			form += table.Rules[i].To
		}
	}
	return cost, form
}
