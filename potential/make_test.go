package potential_test

import (
	"math"
	"math/rand/v2"
	"slices"
	"strconv"
	"strings"
	"testing"

	"customhouse/align"
	"customhouse/api"
)

// known is a case whose certificate, or error, is known.
type known struct {
	pair  pair
	bound int
	want  string
	err   api.Errno
}

// checkKnown fails a test if Make does not return what is known, or if the model does not.
func checkKnown(t *testing.T, table api.Table, cases []known) {
	t.Helper()
	for _, test := range cases {
		want := list(test.want)
		checkMake(t, table, test.pair, test.bound, want, test.err)
		if l, err := wanted(table, test.pair, test.bound); !slices.Equal(l, want) || err != test.err {
			t.Fatalf("the certificate of %v for %d is %v, %d, and not what the test says", test.pair, test.bound, l, err)
		}
	}
}

// example is the table of the chapter's examples.
func example() api.Table {
	return tableOf(rule(plain, "a", "a", 0), rule(plain, "b", "b", 0), rule(plain, "c", "b", 2))
}

// P12.1, L1: the chapter's examples, and others with its table. States from which the least cost is 0 are left out; those without a way to the end have the bound as H.
func TestMakeOfTheExamples(t *testing.T) {
	ab := pair{plain, "ab", plain, "ac"}
	checkKnown(t, example(), []known{
		{pair{plain, "a", plain, "c"}, 0, "", api.OK}, {ab, 0, "", api.OK}, {ab, 2, "0 0 2; 1 0 a 2; 1 1 2; 2 1 b 2", api.OK}, {ab, 3, "", api.ErrNone}, {pair{plain, "a", plain, "b"}, 5, "0 0 5; 1 0 a 5", api.OK},
		{ab, 1, "0 0 1; 1 0 a 1; 1 1 1; 2 1 b 1", api.OK}, {ab, 4, "", api.ErrNone}, {ab, 100000, "", api.ErrNone}, {ab, 100001, "", api.ErrArg}, {ab, -1, "", api.ErrArg}, {ab, -100000, "", api.ErrArg}, {ab, math.MaxInt, "", api.ErrArg}, {ab, math.MinInt, "", api.ErrArg},
		{ab.swapped(), 2, "0 0 2; 1 0 a 2; 1 1 2", api.OK}, {ab.swapped(), 1, "0 0 1; 1 0 a 1; 1 1 1", api.OK}, {ab.swapped(), 3, "", api.ErrNone},
		// The begin is left out if words can be brought together for nothing.
		{pair{plain, "ab", plain, "ab"}, 0, "", api.OK}, {pair{plain, "ab", plain, "ab"}, 1, "", api.ErrNone},
		// No form in common: each bound up to the greatest one.
		{pair{plain, "a", plain, "c"}, 1, "0 0 1; 1 0 a 1", api.OK}, {pair{plain, "a", plain, "c"}, 100000, "0 0 100000; 1 0 a 100000", api.OK}, {pair{plain, "a", plain, "c"}, 99999, "0 0 99999; 1 0 a 99999", api.OK}, {pair{plain, "a", plain, "c"}, 100001, "", api.ErrArg}, {pair{plain, "a", plain, "c"}, -1, "", api.ErrArg}, {pair{plain, "a", plain, "c"}, math.MaxInt, "", api.ErrArg},
		{pair{plain, "a", plain, "c"}, 24000, "0 0 24000; 1 0 a 24000", api.OK}, {pair{plain, "a", plain, "c"}, 24001, "0 0 24001; 1 0 a 24001", api.OK}, {pair{plain, "a", plain, "c"}, 24002, "0 0 24002; 1 0 a 24002", api.OK},
		{pair{plain, "aa", plain, "a"}, 7, "0 0 7; 1 0 a 7; 1 1 7; 2 1 a 7", api.OK}, {pair{plain, "a", plain, "aa"}, 7, "0 0 7; 1 0 a 7; 1 1 7; 1 2 >a 7", api.OK},
		// No rule for a letter, at the begin of a word or behind it.
		{pair{plain, "x", plain, "a"}, 9, "0 0 9", api.OK}, {pair{plain, "a", plain, "x"}, 9, "0 0 9; 1 0 a 9", api.OK}, {pair{plain, "ax", plain, "ax"}, 9, "0 0 9; 1 0 a 9; 1 1 9", api.OK},
		{pair{plain, "cc", plain, "bb"}, 4, "0 0 4; 1 0 b 2; 1 1 2", api.OK}, {pair{plain, "cc", plain, "bb"}, 3, "0 0 3; 1 0 b 2; 1 1 2", api.OK}, {pair{plain, "cc", plain, "bb"}, 2, "0 0 2; 1 0 b 2; 1 1 2", api.OK}, {pair{plain, "cc", plain, "bb"}, 1, "0 0 1; 1 0 b 1; 1 1 1", api.OK}, {pair{plain, "cc", plain, "bb"}, 5, "", api.ErrNone},
		{pair{plain, "bb", plain, "cc"}, 4, "0 0 4; 1 0 b 4; 1 1 2; 2 1 b 2", api.OK}, {pair{plain, "cc", plain, "cc"}, 8, "0 0 8; 1 0 b 6; 1 1 4; 2 1 b 2", api.OK}, {pair{plain, "cc", plain, "cc"}, 3, "0 0 3; 1 0 b 3; 1 1 3; 2 1 b 2", api.OK},
	})
}

// P12.1, L1: rules that write nothing lead to states with nothing ahead, or with the same ahead as before; several moves lead to some states, which are there once.
func TestMakeWithSilentLetters(t *testing.T) {
	table := tableOf(rule(plain, "h", "", 3), rule(plain, "a", "a", 0), rule(plain, "hh", "", 1), rule(abjad, "'", "", 2), rule(abjad, "b", "a", 4))
	checkKnown(t, table, []known{
		{pair{plain, "h", abjad, "'"}, 5, "0 0 5; 1 0 2", api.OK}, {pair{plain, "h", abjad, "'"}, 6, "", api.ErrNone}, {pair{plain, "h", abjad, "'"}, 1, "0 0 1; 1 0 1", api.OK}, {pair{abjad, "'", plain, "h"}, 5, "0 0 5; 1 0 3", api.OK},
		{pair{plain, "hh", abjad, "'"}, 3, "0 0 3; 1 0 3; 2 0 2", api.OK}, {pair{plain, "hhh", abjad, "'"}, 6, "0 0 6; 1 0 3; 2 0 5; 3 0 2", api.OK}, {pair{abjad, "''", plain, "hh"}, 5, "0 0 5; 1 0 3; 2 0 1; 2 1 3", api.OK},
		{pair{plain, "a", abjad, "'b"}, 6, "0 0 6; 1 0 a 6; 1 1 a 4", api.OK}, {pair{plain, "a", abjad, "b'"}, 6, "0 0 6; 1 0 a 6; 1 1 2", api.OK}, {pair{plain, "ha", abjad, "b"}, 7, "0 0 7; 1 0 4; 2 0 a 4", api.OK}, {pair{plain, "ah", abjad, "b"}, 7, "0 0 7; 1 0 a 7; 1 1 3", api.OK},
		{pair{plain, "h", abjad, "b"}, 10, "0 0 10; 1 0 10; 1 1 >a 10", api.OK}, {pair{plain, "h", plain, "a"}, 10, "0 0 10; 1 0 10; 1 1 >a 10", api.OK}, {pair{plain, "hh", plain, "ah"}, 10, "0 0 10; 1 0 10; 2 0 10; 2 1 >a 10", api.OK},
		// What costs nothing is left out, also before states that are there.
		{pair{plain, "a", abjad, "'"}, 1, "0 0 1; 1 0 a 1; 1 1 a 1", api.OK}, {pair{abjad, "'b", plain, "a"}, 6, "0 0 6; 1 0 4", api.OK}, {pair{abjad, "b'", plain, "a"}, 6, "0 0 6; 1 0 a 2; 1 1 2", api.OK},
		{pair{plain, "a", plain, "ha"}, 3, "0 0 3; 1 0 a 3", api.OK}, {pair{plain, "ha", plain, "a"}, 3, "0 0 3", api.OK},
	})
	free := tableOf(rule(plain, "h", "", 0), rule(plain, "a", "a", 0), rule(plain, "b", "b", 0))
	checkKnown(t, free, []known{
		{pair{plain, "hah", plain, "a"}, 0, "", api.OK}, {pair{plain, "hah", plain, "a"}, 1, "", api.ErrNone}, {pair{plain, "hhh", plain, "h"}, 1, "", api.ErrNone}, {pair{plain, "hah", plain, "hbh"}, 7, "0 0 7; 1 0 7; 2 0 a 7; 2 1 a 7", api.OK},
	})
}

// P12.1, L1: texts of one, two and three letters are ahead, of the left word and of the right one, and states are in order by I, J, Ahead and Right.
func TestMakeWithTextsAhead(t *testing.T) {
	table := tableOf(
		rule(plain, "a", "x", 1), rule(plain, "a", "xy", 1), rule(plain, "a", "xyz", 1), rule(plain, "b", "yzx", 0), rule(plain, "c", "z", 5),
		rule(abjad, "b", "x", 1), rule(abjad, "b", "xy", 3), rule(abjad, "b", "xyz", 1), rule(abjad, "d", "yzx", 2), rule(abjad, "g", "z", 7),
	)
	// Behind the first letters, texts are ahead of both words, and no moves lead on from there.
	lost := "0 0 9; 1 0 x 9; 1 0 xy 9; 1 0 xyz 9; 1 1 9; 1 1 y 9; 1 1 >y 9; 1 1 yz 9; 1 1 >yz 9; 1 1 z 9; 1 1 >z 9"
	ac := pair{plain, "ac", abjad, "bg"}
	checkKnown(t, table, []known{
		{pair{plain, "ax", abjad, "bk"}, 9, lost, api.OK}, {pair{plain, "ax", abjad, "bk"}, 100000, strings.ReplaceAll(lost, " 9", " 100000"), api.OK}, {pair{abjad, "bk", plain, "ax"}, 9, lost, api.OK},
		{ac, 14, "0 0 14; 1 0 x 13; 1 0 xy 14; 1 0 xyz 13; 1 1 12; 1 1 y 14; 1 1 >y 14; 1 1 yz 14; 1 1 >yz 14; 1 1 z 14; 1 1 >z 14; 1 2 14; 2 1 14; 2 1 z 7; 2 2 z 14; 2 2 >z 14", api.OK},
		{ac, 13, "0 0 13; 1 0 x 13; 1 0 xy 13; 1 0 xyz 13; 1 1 12; 1 1 y 13; 1 1 >y 13; 1 1 yz 13; 1 1 >yz 13; 1 1 z 13; 1 1 >z 13; 1 2 13; 2 1 13; 2 1 z 7; 2 2 z 13; 2 2 >z 13", api.OK},
		{ac, 15, "", api.ErrNone},
		{pair{plain, "ac", abjad, "b"}, 7, "0 0 7; 1 0 x 7; 1 0 xy 6; 1 0 xyz 7; 1 1 7; 1 1 y 7; 1 1 >y 7; 1 1 yz 7; 1 1 >yz 7; 1 1 z 7; 1 1 >z 5; 2 1 z 7", api.OK}, {pair{plain, "ac", abjad, "b"}, 8, "", api.ErrNone},
		{pair{plain, "a", abjad, "bg"}, 11, "0 0 11; 1 0 x 11; 1 0 xy 11; 1 0 xyz 10; 1 1 11; 1 1 y 11; 1 1 >y 11; 1 1 yz 11; 1 1 >yz 11; 1 1 z 7; 1 1 >z 11; 1 2 >z 11", api.OK}, {pair{plain, "a", abjad, "bg"}, 12, "", api.ErrNone},
		{pair{plain, "ab", abjad, "bd"}, 4, "0 0 4; 1 0 x 3; 1 0 xy 4; 1 0 xyz 3; 1 1 2; 1 1 y 4; 1 1 >y 4; 1 1 yz 4; 1 1 >yz 4; 1 1 z 4; 1 1 >z 4; 1 2 >x 4; 1 2 >zx 4; 2 1 x 4; 2 1 yzx 2; 2 1 zx 4", api.OK}, {pair{plain, "ab", abjad, "bd"}, 5, "", api.ErrNone},
	})
	long := tableOf(rule(plain, "a", "aa", 0), rule(plain, "b", "a", 0), rule(plain, "c", "aaa", 1), rule(plain, "d", "", 2))
	checkKnown(t, long, []known{
		{pair{plain, "ca", plain, "ac"}, 2, "0 0 2; 1 0 aaa 1; 1 1 a 1", api.OK}, {pair{plain, "ca", plain, "ac"}, 3, "", api.ErrNone}, {pair{plain, "bc", plain, "aa"}, 1, "0 0 1; 1 0 a 1; 1 1 >a 1", api.OK}, {pair{plain, "bdc", plain, "aa"}, 3, "0 0 3; 1 0 a 3; 1 1 >a 3; 2 1 >a 1", api.OK},
		{pair{plain, "bcd", plain, "aa"}, 3, "0 0 3; 1 0 a 3; 1 1 >a 3; 2 1 aa 2; 2 2 2", api.OK}, {pair{plain, "bcd", plain, "ac"}, 3, "0 0 3; 1 0 a 3; 1 1 >a 3; 2 1 aa 3; 2 2 >a 3; 3 2 >a 3", api.OK},
		{pair{plain, "b", plain, "bc"}, 4, "0 0 4; 1 0 a 4; 1 1 4; 1 2 >aaa 4", api.OK}, {pair{plain, "b", plain, "ba"}, 4, "0 0 4; 1 0 a 4; 1 1 4; 1 2 >aa 4", api.OK}, {pair{plain, "b", plain, "bb"}, 4, "0 0 4; 1 0 a 4; 1 1 4; 1 2 >a 4", api.OK},
	})
}

// P12.1, L1: the same text is ahead of either word at one place, but from one of these states moves lead to the end, for nothing or at another cost.
func TestMakeWithTheSameTextAheadOfBothWords(t *testing.T) {
	table := tableOf(rule(plain, "a", "x", 1), rule(plain, "a", "xy", 1), rule(plain, "b", "x", 1), rule(plain, "b", "xy", 1), rule(plain, "c", "y", 0), rule(plain, "d", "", 0), rule(plain, "e", "y", 4))
	checkKnown(t, table, []known{
		{pair{plain, "ac", plain, "bd"}, 2, "0 0 2; 1 0 x 1; 1 0 xy 2; 1 1 2; 1 1 y 2; 1 2 y 2; 2 1 y 2; 2 2 y 2", api.OK},
		{pair{plain, "ad", plain, "bc"}, 2, "0 0 2; 1 0 x 2; 1 0 xy 1; 1 1 2; 1 1 >y 2; 2 1 2; 2 1 >y 2; 2 2 >y 2", api.OK},
		{pair{plain, "ac", plain, "be"}, 6, "0 0 6; 1 0 x 5; 1 0 xy 5; 1 1 4; 1 1 y 6; 1 1 >y 6; 1 2 6; 2 1 6; 2 1 y 4; 2 2 y 6; 2 2 >y 6", api.OK},
		{pair{plain, "ae", plain, "bd"}, 6, "0 0 6; 1 0 x 5; 1 0 xy 6; 1 1 6; 1 1 y 6; 1 1 >y 4; 1 2 y 6; 2 1 y 6; 2 2 y 6", api.OK},
	})
}

// scripts is a table with rules of all scripts, also with equal From's, for letters of one and of two bytes.
func scripts() api.Table {
	return api.Table{
		Rules: []api.Rule{
			rule(syllab, "na", "na", 0), rule(plain, "n", "n", 0), rule(cased, "n", "n", 0), rule(cased, "n^", "ny", 1), rule(abjad, "n", "n", 2), rule(plain, "a", "a", 0), rule(cased, "a", "a", 0), rule(cased, "a'", "aa", 1), rule(abjad, "'", "a", 1), rule(cased, "na", "y", 0), rule(syllab, "n", "x", 0),
		},
		Drops: []api.Drop{drop(plain, "na", 0), drop(cased, "a", 0)}, Ends: []api.Drop{drop(plain, "a", 0), drop(syllab, "na", 0)}, Drop: 0, Order: 0, Initial: 0,
	}
}

// P12.1, L1: words of one script and of two, with letters of one and of two bytes, and capital letters. I and J count letters; the rules of other scripts are not used, though their From's are there too.
func TestMakeOfTwoScripts(t *testing.T) {
	na := "0 0 8; 1 0 na 8; 1 1 a 8; 1 2 8; 2 2 na 8; 2 3 a 8"
	checkKnown(t, scripts(), []known{
		{pair{plain, "na", syllab, "na"}, 0, "", api.OK}, {pair{plain, "na", syllab, "na"}, 1, "", api.ErrNone}, {pair{cased, "Na", plain, "na"}, 1, "", api.ErrNone},
		{pair{cased, "A'", plain, "aa"}, 1, "0 0 1", api.OK}, {pair{plain, "aa", cased, "A'"}, 1, "0 0 1; 1 0 a 1", api.OK}, {pair{cased, "A'", cased, "a'"}, 2, "0 0 2; 1 0 aa 1", api.OK}, {pair{cased, "AA'", cased, "a'A"}, 2, "0 0 2; 1 0 a 2; 1 1 >a 1", api.OK},
		{pair{abjad, "n'", plain, "na"}, 3, "0 0 3; 1 0 n 1; 1 1 1", api.OK}, {pair{plain, "na", abjad, "n'"}, 3, "0 0 3; 1 0 n 3; 1 1 1; 2 1 a 1", api.OK}, {pair{plain, "na", abjad, "n'"}, 4, "", api.ErrNone},
		{pair{cased, "N^", plain, "n"}, 6, "0 0 6; 1 0 ny 6; 1 1 y 6", api.OK}, {pair{cased, "n`", plain, "n"}, 6, "0 0 6", api.OK}, {pair{plain, "n", cased, "N^"}, 6, "0 0 6; 1 0 n 6; 1 1 >y 6", api.OK}, {pair{cased, "na", plain, "x"}, 6, "0 0 6; 1 0 n 6; 2 0 y 6", api.OK},
		{pair{syllab, "nana", plain, "nan"}, 8, na, api.OK}, {pair{syllab, "nana", plain, "nan"}, 100000, strings.ReplaceAll(na, " 8", " 100000"), api.OK}, {pair{syllab, "ana", plain, "ana"}, 8, "0 0 8", api.OK}, {pair{syllab, "nna", plain, "n"}, 8, "0 0 8; 1 0 x 8", api.OK},
	})
}

// P12.1, L1: the least cost of all words is 24000, with 24 rules that cost 1000 each; bounds are the lesser ones of it, or further than any cost.
func TestMakeOfTheDearestWords(t *testing.T) {
	table := tableOf(rule(cased, "a'", "a", 1000), rule(cased, "n", "n", 0), rule(cased, "n", "nnn", 1000), rule(cased, "nnn", "n", 1000))
	p := pair{cased, rep("A'", 12), cased, rep("a'", 12)}
	var states []api.Potential
	for i := range 12 {
		states = append(states, api.Potential{I: i, J: i, H: 24000 - 2000*i}, api.Potential{I: i + 1, J: i, Ahead: "a", H: 23000 - 2000*i})
	}
	for _, bound := range []int{0, 1, 999, 1000, 1001, 23999, 24000} {
		checkMake(t, table, p, bound, lesser(states, bound), api.OK)
	}
	for _, bound := range []int{24001, 24002, 99999, 100000} {
		checkMake(t, table, p, bound, nil, api.ErrNone)
	}
	checkMake(t, table, p, 100001, nil, api.ErrArg)
	p.y = rep("a'", 11)
	want, _ := wanted(table, p, 100000)
	checkMake(t, table, p, 100000, want, api.OK)
	if len(want) != 24 || want[0] != (api.Potential{H: 100000}) {
		t.Fatalf("the certificate of %v is %v", p, want)
	}
	p = pair{cased, rep("n", 12), cased, rep("n", 4)}
	checkMake(t, table, p, 4001, nil, api.ErrNone)
	want, _ = wanted(table, p, 4000)
	checkMake(t, table, p, 4000, want, api.OK)
}

// lesser returns elements with the lesser one of H and a bound, or none for the bound 0.
func lesser(l []api.Potential, bound int) []api.Potential {
	var less []api.Potential
	for _, p := range l {
		p.H = min(p.H, bound)
		if p.H > 0 {
			less = append(less, p)
		}
	}
	return less
}

// bounds returns bounds to try for words with a least cost, or without a derivation.
func bounds(r *rand.Rand, least int) []int {
	return []int{0, 1, 2, least - 1, least, least + 1, 1 + r.IntN(100000), 100000, 100001, -1}
}

// P12.1, L1: Make agrees with the model, whose least costs are compared with those of all pairs of rewritings of what is left.
func TestMakeAgreesWithAllRewritings(t *testing.T) {
	r := rand.New(rand.NewPCG(12, 1))
	counts := map[string]int{}
	for range 1500 {
		table, p := randomCase(r, pick(r, []int{8, 12}), 4)
		m := newSolved(table, p)
		for at, cost := range m.costs {
			if other := leastOf(table, p, at); other != cost {
				t.Fatalf("from %v it costs %d, and not %d, for %v with %v", at, other, cost, p, table.Rules)
			}
		}
		for _, bound := range bounds(r, m.least()) {
			want, err := m.wanted(bound)
			checkMake(t, table, p, bound, want, err)
			for _, one := range want {
				at := placeOf(one)
				if m.reached[at] > 1 && at != (place{}) {
					counts["several moves"]++
				}
				if one.Right {
					counts["ahead of the right one"]++
				}
				if m.costs[at] == endless {
					counts["endless"]++
				}
			}
			counts["the error "+strconv.Itoa(int(err))]++
			counts["left out"] += len(m.reached) - 1 - len(want)
		}
	}
	for name, n := range counts {
		if n < 500 {
			t.Errorf("%s: only %d times", name, n)
		}
	}
	if len(counts) != 7 {
		t.Errorf("what was tried is %v", counts)
	}
}

// P12.1, L1: Make agrees with the model, for words of up to 12 letters and tables of up to 80 rules; the least cost is that of align.Best.
func TestMakeOfLongWords(t *testing.T) {
	r := rand.New(rand.NewPCG(12, 2))
	found, missing := 0, 0
	for range 250 {
		table, p := randomCase(r, pick(r, []int{8, 20, 80}), 12)
		if r.IntN(2) == 0 {
			p.x, p.y = longWord(r, p.a), longWord(r, p.b)
		}
		d, err := align.Best(table, p.a, p.x, p.b, p.y)
		least := d.Cost
		if err == api.ErrNone {
			least = endless
			missing++
		} else {
			found++
		}
		m := newSolved(table, p)
		if m.least() != least {
			t.Fatalf("the least cost of %v is %d, and not %d, with %v", p, m.least(), least, table.Rules)
		}
		for _, bound := range []int{1, min(least, 100000), least + 1, 1 + r.IntN(100000)} {
			want, err := m.wanted(bound)
			checkMake(t, table, p, bound, want, err)
		}
	}
	if min(found, missing) < 40 {
		t.Fatalf("%d pairs have derivations, and %d have none", found, missing)
	}
}

// P12.1, L1: 80 rules for words of 12 equal letters, with more rewritings than could be looked at one by one.
func TestMakeOfManyRules(t *testing.T) {
	texts := []string{""}
	for i := 0; len(texts) < 80; i++ {
		for _, c := range []string{"a", "b", "c", "d"} {
			texts = append(texts, texts[i]+c)
		}
	}
	r := rand.New(rand.NewPCG(12, 3))
	for _, costs := range [][]int{{1}, {0, 1}, {1, 2, 3, 500, 1000}, {1000}} {
		var one, two api.Table
		for i, to := range texts[:80] {
			one.Rules = append(one.Rules, rule(plain, "n", to, pick(r, costs)))
			if i < 40 {
				two.Rules = append(two.Rules, rule(plain, "n", to, pick(r, costs)), rule(syllab, "nn", to, pick(r, costs)))
			}
		}
		for _, test := range []struct {
			table api.Table
			pair  pair
		}{
			{one, pair{plain, rep("n", 5), plain, rep("n", 2)}}, {one, pair{plain, "n", plain, "nx"}}, {two, pair{plain, rep("n", 12), syllab, rep("n", 12)}}, {two, pair{plain, rep("n", 12), syllab, rep("n", 7)}},
		} {
			table := tableOf(shuffled(r, test.table.Rules)...)
			m := newSolved(table, test.pair)
			for _, bound := range []int{1, min(m.least(), 100000), 100000} {
				want, err := m.wanted(bound)
				checkMake(t, table, test.pair, bound, want, err)
			}
		}
	}
}
