package align_test

import (
	"math/rand/v2"
	"slices"
	"strings"
	"testing"

	"customhouse/api"
)

// known is a case whose derivation, or error, is known.
type known struct {
	pair pair
	want api.Derivation
	err  api.Errno
}

// checkKnown fails a test if Best does not return what is known, or if this is not the first one of all derivations.
func checkKnown(t *testing.T, table api.Table, cases []known) {
	t.Helper()
	for _, test := range cases {
		checkBest(t, table, test.pair, test.want, test.err)
		if want, _, err := wanted(table, test.pair); !same(want, test.want) || err != test.err {
			t.Fatalf("the first derivation of %v is %v, %d, and not what the test says", test.pair, want, err)
		}
	}
}

// P11.1, K1: the chapter's examples, and others with its table.
func TestBestOfTheExamples(t *testing.T) {
	checkKnown(t, example(), []known{
		{pair{plain, "ana", plain, "ana"}, by(0, "ana", "0 1 0", "0 1 0"), api.OK},
		{pair{plain, "anna", plain, "ana"}, by(1, "ana", "0 2 0", "0 1 0"), api.OK},
		{pair{plain, "na", abjad, "n"}, by(2, "na", "1 0", "4"), api.OK},
		{pair{plain, "a", abjad, "n"}, api.Derivation{}, api.ErrNone},
		{pair{plain, "ana", plain, "anna"}, by(1, "ana", "0 1 0", "0 2 0"), api.OK},
		{pair{abjad, "n", plain, "na"}, by(2, "na", "4", "1 0"), api.OK},
		{pair{abjad, "n", plain, "a"}, api.Derivation{}, api.ErrNone},
		{pair{plain, "anna", plain, "anna"}, by(0, "anna", "0 1 1 0", "0 1 1 0"), api.OK},
		{pair{plain, "n", plain, "n"}, by(0, "n", "1", "1"), api.OK},
		{pair{plain, "n", plain, "nn"}, by(1, "n", "1", "2"), api.OK},
		{pair{plain, "nnn", plain, "nn"}, by(1, "nn", "1 2", "1 1"), api.OK},
		{pair{plain, "nnnn", plain, "nn"}, by(2, "nn", "2 2", "1 1"), api.OK},
		{pair{plain, "nnnnn", plain, "nn"}, api.Derivation{}, api.ErrNone},
		{pair{plain, "nan", abjad, "nn"}, by(2, "nan", "1 0 1", "4 3"), api.OK},
		{pair{plain, "nnan", abjad, "nn"}, by(3, "nan", "2 0 1", "4 3"), api.OK},
		{pair{plain, "nana", abjad, "nn"}, by(4, "nana", "1 0 1 0", "4 4"), api.OK},
		{pair{plain, "nanana", abjad, "nn"}, api.Derivation{}, api.ErrNone},
		{pair{abjad, "n", abjad, "n"}, by(0, "n", "3", "3"), api.OK},
		{pair{abjad, "nn", abjad, "n"}, api.Derivation{}, api.ErrNone},
	})
}

// P11.1, K1: rules that write nothing, at the begin, between letters and at the end of one word and of both: such a move leaves Ahead as it is.
func TestBestWithSilentLetters(t *testing.T) {
	table := tableOf(rule(plain, "h", "", 3), rule(plain, "a", "a", 0), rule(plain, "h", "h", 5), rule(abjad, "'", "", 2), rule(abjad, "b", "a", 1), rule(abjad, "t", "aaa", 7), rule(plain, "k", "aa", 0))
	checkKnown(t, table, []known{
		{pair{plain, "ha", abjad, "b"}, by(4, "a", "0 1", "4"), api.OK},
		{pair{plain, "ah", abjad, "b"}, by(4, "a", "1 0", "4"), api.OK},
		{pair{plain, "aha", abjad, "bb"}, by(5, "aa", "1 0 1", "4 4"), api.OK},
		{pair{plain, "a", abjad, "'b"}, by(3, "a", "1", "3 4"), api.OK},
		{pair{plain, "a", abjad, "b'"}, by(3, "a", "1", "4 3"), api.OK},
		{pair{plain, "aa", abjad, "b'b"}, by(4, "aa", "1 1", "4 3 4"), api.OK},
		{pair{plain, "h", abjad, "'"}, by(5, "", "0", "3"), api.OK},
		{pair{plain, "hh", abjad, "'''"}, by(12, "", "0 0", "3 3 3"), api.OK},
		{pair{plain, "ha", abjad, "'b"}, by(6, "a", "0 1", "3 4"), api.OK},
		{pair{plain, "ah", abjad, "b'"}, by(6, "a", "1 0", "4 3"), api.OK},
		{pair{plain, "haha", abjad, "'b'b'"}, by(14, "aa", "0 1 0 1", "3 4 3 4 3"), api.OK},
		// Letters are silent while the other word has written more.
		{pair{plain, "hahaha", abjad, "'t'"}, by(20, "aaa", "0 1 0 1 0 1", "3 5 3"), api.OK},
		{pair{plain, "ahhak", abjad, "'b't"}, by(18, "aaaa", "1 0 0 1 6", "3 4 3 5"), api.OK},
		{pair{plain, "ka", abjad, "'b''b'b''"}, by(15, "aaa", "6 1", "3 4 3 3 4 3 4 3 3"), api.OK},
		{pair{plain, "h", plain, "h"}, by(6, "", "0", "0"), api.OK},
		{pair{plain, "hh", plain, "h"}, by(9, "", "0 0", "0"), api.OK},
		{pair{plain, "hh", plain, "hh"}, by(12, "", "0 0", "0 0"), api.OK},
		{pair{plain, "h", abjad, "b"}, api.Derivation{}, api.ErrNone},
		{pair{plain, "a", abjad, "'"}, api.Derivation{}, api.ErrNone},
		{pair{plain, "ah", abjad, "t"}, api.Derivation{}, api.ErrNone},
	})
}

// P11.1, K1: what is ahead is of the left or of the right side, is used up exactly, is left in part, passes to the other side, and is longer than one To.
func TestBestWithTextsAhead(t *testing.T) {
	table := tableOf(
		rule(plain, "a", "xy", 1), rule(plain, "b", "zx", 1), rule(plain, "c", "yzx", 1), rule(plain, "x", "x", 0), rule(plain, "y", "y", 0), rule(plain, "z", "z", 0),
		rule(abjad, "b", "x", 2), rule(abjad, "d", "yz", 2), rule(abjad, "f", "xyz", 2), rule(abjad, "g", "y", 2), rule(abjad, "h", "zxy", 2),
	)
	cases := []known{
		// xy + zx and x + yz + x: ahead are xy and y of the left one, z of the right one, x of the left one.
		{pair{plain, "ab", abjad, "bdb"}, by(8, "xyzx", "0 1", "6 7 6"), api.OK},
		{pair{plain, "x", abjad, "b"}, by(2, "x", "3", "6"), api.OK},
		{pair{plain, "a", abjad, "bg"}, by(5, "xy", "0", "6 9"), api.OK},
		{pair{plain, "xyz", abjad, "f"}, by(2, "xyz", "3 4 5", "8"), api.OK},
		{pair{plain, "xyzxyz", abjad, "ff"}, by(4, "xyzxyz", "3 4 5 3 4 5", "8 8"), api.OK},
		{pair{plain, "xc", abjad, "fb"}, by(5, "xyzx", "3 2", "8 6"), api.OK},
		{pair{plain, "xcyzx", abjad, "fffb"}, api.Derivation{}, api.ErrNone},
		{pair{plain, "xcyzx", abjad, "ffb"}, by(7, "xyzxyzx", "3 2 4 5 3", "8 8 6"), api.OK},
		{pair{plain, "abyz", abjad, "ff"}, by(6, "xyzxyz", "0 1 4 5", "8 8"), api.OK},
		{pair{plain, "az", abjad, "f"}, by(3, "xyz", "0 5", "8"), api.OK},
		{pair{plain, "aba", abjad, "fb"}, api.Derivation{}, api.ErrNone},
		{pair{plain, "ab", abjad, "f"}, api.Derivation{}, api.ErrNone},
		{pair{plain, "a", abjad, "f"}, api.Derivation{}, api.ErrNone},
		{pair{plain, "xc", abjad, "f"}, api.Derivation{}, api.ErrNone},
		{pair{plain, "xcc", abjad, "bdbdb"}, by(12, "xyzxyzx", "3 2 2", "6 7 6 7 6"), api.OK},
		{pair{plain, "xczc", abjad, "bghf"}, api.Derivation{}, api.ErrNone},
		{pair{plain, "ab", abjad, "bgh"}, api.Derivation{}, api.ErrNone},
		{pair{plain, "aby", abjad, "bgh"}, by(8, "xyzxy", "0 1 4", "6 9 10"), api.OK},
	}
	checkKnown(t, table, cases)
	for i := range cases {
		cases[i].pair, cases[i].want = cases[i].pair.swapped(), exchanged(cases[i].want)
	}
	checkKnown(t, table, cases)
}

// P11.1, K1: the same text is ahead of either side, at the same place of both words, but one of these states leads to no end, or at another cost.
func TestBestWithTheSameTextAheadOfBothSides(t *testing.T) {
	table := tableOf(rule(plain, "a", "xa", 1), rule(plain, "a", "x", 1), rule(plain, "b", "a", 1), rule(plain, "c", "x", 1), rule(plain, "c", "xa", 1), rule(plain, "d", "", 1))
	checkKnown(t, table, []known{
		{pair{plain, "ab", plain, "cd"}, by(4, "xa", "1 2", "4 5"), api.OK},
		{pair{plain, "cd", plain, "ab"}, by(4, "xa", "4 5", "1 2"), api.OK},
		{pair{plain, "a", plain, "cd"}, by(3, "xa", "0", "4 5"), api.OK},
		{pair{plain, "ab", plain, "c"}, by(3, "xa", "1 2", "4"), api.OK},
	})
	table.Rules = append(table.Rules, rule(plain, "b", "", 50), rule(plain, "d", "a", 30))
	checkKnown(t, table, []known{
		{pair{plain, "ab", plain, "cd"}, by(4, "xa", "1 2", "4 5"), api.OK},
		{pair{plain, "ac", plain, "ca"}, by(4, "xax", "0 3", "4 1"), api.OK},
	})
	table.Rules[4].Cost = 40
	checkKnown(t, table, []known{
		{pair{plain, "ab", plain, "cd"}, by(33, "xa", "1 2", "3 7"), api.OK},
		{pair{plain, "cd", plain, "ab"}, by(33, "xa", "3 7", "1 2"), api.OK},
	})
	table.Rules[2].Cost, table.Rules[7].Cost = 60, 2
	checkKnown(t, table, []known{
		{pair{plain, "ab", plain, "cd"}, by(53, "x", "1 6", "3 5"), api.OK},
		{pair{plain, "cd", plain, "ab"}, by(53, "x", "3 5", "1 6"), api.OK},
	})
	table.Rules[5].Cost = 20
	checkKnown(t, table, []known{
		{pair{plain, "ab", plain, "cd"}, by(54, "xa", "0 6", "3 7"), api.OK},
		{pair{plain, "cd", plain, "ab"}, by(54, "xa", "3 7", "0 6"), api.OK},
	})
}

// P11.1, K1: of several derivations with the least cost, the first one counts, by the first different move of either word, in the order of the moves.
func TestBestOfEqualDerivations(t *testing.T) {
	// Both derivations begin with a move of the left word, whose rules differ.
	left := tableOf(rule(plain, "m", "x", 1), rule(plain, "n", "y", 1), rule(plain, "m", "y", 1), rule(plain, "n", "x", 1))
	checkKnown(t, left, []known{
		{pair{plain, "m", plain, "n"}, by(2, "x", "0", "3"), api.OK}, {pair{plain, "n", plain, "m"}, by(2, "y", "1", "2"), api.OK},
		{pair{plain, "mm", plain, "nn"}, by(4, "xx", "0 0", "3 3"), api.OK}, {pair{plain, "mn", plain, "nm"}, by(4, "xy", "0 1", "3 2"), api.OK},
	})
	// The moves are 0 2 3 5 or 0 4 1 6: the second one is of the right word.
	right := tableOf(rule(plain, "a", "x", 1), rule(plain, "b", "yz", 1), rule(abjad, "b", "x", 1), rule(plain, "b", "y", 1), rule(abjad, "b", "xy", 1), rule(abjad, "d", "y", 1), rule(abjad, "d", "z", 1))
	checkKnown(t, right, []known{
		{pair{plain, "ab", abjad, "bd"}, by(4, "xy", "0 3", "2 5"), api.OK}, {pair{abjad, "bd", plain, "ab"}, by(4, "xy", "2 5", "0 3"), api.OK},
	})
	// The left word has one rewriting, and the right one several, with one, two and three rules.
	numbers := tableOf(rule(plain, "a", "xyz", 0), rule(abjad, "bdf", "xyz", 3), rule(abjad, "bd", "xy", 2), rule(abjad, "f", "z", 1), rule(abjad, "b", "x", 1), rule(abjad, "d", "y", 1), rule(abjad, "df", "yz", 2))
	checkKnown(t, numbers, []known{{pair{plain, "a", abjad, "bdf"}, by(3, "xyz", "0", "1"), api.OK}, {pair{abjad, "bdf", plain, "a"}, by(3, "xyz", "1", "0"), api.OK}})
	slices.Reverse(numbers.Rules)
	checkKnown(t, numbers, []known{{pair{plain, "a", abjad, "bdf"}, by(3, "xyz", "6", "2 0"), api.OK}, {pair{abjad, "bdf", plain, "a"}, by(3, "xyz", "2 0", "6"), api.OK}})
	numbers.Rules[0], numbers.Rules[1] = numbers.Rules[1], numbers.Rules[0]
	checkKnown(t, numbers, []known{{pair{plain, "a", abjad, "bdf"}, by(3, "xyz", "6", "2 0 3"), api.OK}})
	// Silent letters: when nothing is ahead, the left word moves as long as it has letters.
	silent := tableOf(rule(plain, "h", "", 1), rule(plain, "h", "h", 1), rule(abjad, "h", "h", 1), rule(abjad, "h", "", 1))
	checkKnown(t, silent, []known{
		{pair{plain, "h", abjad, "h"}, by(2, "", "0", "3"), api.OK}, {pair{plain, "hh", abjad, "h"}, by(3, "", "0 0", "3"), api.OK},
		{pair{abjad, "h", plain, "h"}, by(2, "h", "2", "1"), api.OK}, {pair{abjad, "h", plain, "hh"}, by(3, "h", "2", "0 1"), api.OK}, {pair{abjad, "hh", plain, "h"}, by(3, "h", "2 3", "1"), api.OK},
	})
}

// P11.1, K1: a dearer rule with a lesser index loses, also if its word goes on at no cost, and a move that is cheap may lead to dear ones.
func TestBestOfDearRules(t *testing.T) {
	table := tableOf(rule(plain, "a", "a", 2), rule(plain, "aa", "aa", 3), rule(plain, "a", "b", 1), rule(plain, "b", "a", 0), rule(plain, "b", "b", 9), rule(plain, "aa", "bb", 3))
	checkKnown(t, table, []known{
		{pair{plain, "a", plain, "b"}, by(2, "a", "0", "3"), api.OK}, {pair{plain, "b", plain, "a"}, by(2, "a", "3", "0"), api.OK},
		{pair{plain, "aa", plain, "bb"}, by(3, "aa", "1", "3 3"), api.OK}, {pair{plain, "aaa", plain, "bbb"}, by(5, "aaa", "0 1", "3 3 3"), api.OK},
		{pair{plain, "a", plain, "a"}, by(2, "b", "2", "2"), api.OK}, {pair{plain, "aa", plain, "a"}, api.Derivation{}, api.ErrNone}, {pair{plain, "aa", plain, "aa"}, by(4, "bb", "2 2", "2 2"), api.OK},
	})
	table.Rules[3].Cost = 12
	checkKnown(t, table, []known{{pair{plain, "a", plain, "b"}, by(10, "b", "2", "4"), api.OK}, {pair{plain, "aa", plain, "bb"}, by(20, "bb", "2 2", "4 4"), api.OK}})
	// One move cheaper, but in all dearer by one.
	one := tableOf(rule(plain, "a", "x", 0), rule(plain, "a", "y", 999), rule(plain, "b", "x", 1000), rule(plain, "b", "y", 0))
	checkKnown(t, one, []known{{pair{plain, "a", plain, "b"}, by(999, "y", "1", "3"), api.OK}, {pair{plain, "b", plain, "a"}, by(999, "y", "3", "1"), api.OK}})
	one.Rules[1].Cost = 1000
	checkKnown(t, one, []known{{pair{plain, "a", plain, "b"}, by(1000, "x", "0", "2"), api.OK}, {pair{plain, "b", plain, "a"}, by(1000, "x", "2", "0"), api.OK}})
}

// scripts is a table with rules of all scripts, also with equal From's, for letters of one and of two bytes.
func scripts() api.Table {
	return api.Table{
		Rules: []api.Rule{
			rule(syllab, "na", "na", 0), rule(plain, "n", "n", 0), rule(cased, "n", "n", 0), rule(cased, "n^", "ny", 1), rule(abjad, "n", "n", 0), rule(syllab, "n", "n", 0), rule(plain, "a", "a", 0), rule(cased, "a", "a", 0),
			rule(cased, "a'", "aa", 1), rule(syllab, "a", "a", 0), rule(abjad, "'", "a", 1), rule(abjad, "'", "", 3), rule(cased, "a'n^", "any", 0), rule(plain, "na", "x", 0), rule(cased, "na", "y", 0), rule(syllab, "ki", "ci", 4), rule(plain, "c", "c", 0), rule(plain, "i", "i", 0), rule(abjad, "n'", "aan", 1),
		},
		Drops: []api.Drop{drop(plain, "na", 0), drop(cased, "a", 0)}, Ends: []api.Drop{drop(plain, "a", 0), drop(syllab, "na", 0)}, Drop: 0, Order: 0, Initial: 0,
	}
}

// P11.1, K1: words of one script and of two, with letters of one and of two bytes, and capital letters. The rules of other scripts are not used, though their From's are there too.
func TestBestOfTwoScripts(t *testing.T) {
	checkKnown(t, scripts(), []known{
		{pair{plain, "na", syllab, "na"}, by(0, "na", "1 6", "0"), api.OK}, {pair{syllab, "na", plain, "na"}, by(0, "na", "0", "1 6"), api.OK}, {pair{plain, "na", cased, "na"}, by(0, "na", "1 6", "2 7"), api.OK}, {pair{plain, "na", plain, "na"}, by(0, "na", "1 6", "1 6"), api.OK},
		{pair{syllab, "na", syllab, "na"}, by(0, "na", "0", "0"), api.OK}, {pair{syllab, "an", syllab, "an"}, by(0, "an", "9 5", "9 5"), api.OK}, {pair{syllab, "an", plain, "an"}, by(0, "an", "9 5", "6 1"), api.OK}, {pair{syllab, "nna", plain, "nna"}, by(0, "nna", "5 0", "1 1 6"), api.OK}, {pair{syllab, "ana", plain, "ana"}, by(0, "ana", "9 0", "6 1 6"), api.OK},
		{pair{syllab, "naki", plain, "naci"}, by(4, "naci", "0 15", "1 6 16 17"), api.OK}, {pair{syllab, "ki", plain, "ki"}, api.Derivation{}, api.ErrNone}, {pair{plain, "ci", syllab, "ki"}, by(4, "ci", "16 17", "15"), api.OK},
		{pair{cased, "a'", plain, "aa"}, by(1, "aa", "8", "6 6"), api.OK}, {pair{cased, "A'", plain, "aa"}, by(1, "aa", "8", "6 6"), api.OK}, {pair{cased, "A'A", cased, "aAa"}, by(1, "aaa", "8 7", "7 7 7"), api.OK}, {pair{cased, "a'n^", cased, "a'n^"}, by(0, "any", "12", "12"), api.OK}, {pair{cased, "A'N^", cased, "AN^"}, by(1, "any", "12", "7 3"), api.OK}, {pair{cased, "a'n", plain, "aan"}, by(1, "aan", "8 2", "6 6 1"), api.OK}, {pair{cased, "N^", plain, "n"}, api.Derivation{}, api.ErrNone}, {pair{cased, "n`", plain, "n"}, api.Derivation{}, api.ErrNone}, {pair{cased, "a^", plain, "a"}, api.Derivation{}, api.ErrNone},
		{pair{abjad, "n'", plain, "na"}, by(1, "na", "4 10", "1 6"), api.OK}, {pair{abjad, "n'", plain, "n"}, by(3, "n", "4 11", "1"), api.OK}, {pair{abjad, "n'", cased, "A'N"}, by(2, "aan", "18", "8 2"), api.OK}, {pair{abjad, "'n'", syllab, "ana"}, by(2, "ana", "10 4 10", "9 0"), api.OK}, {pair{abjad, "'n'", syllab, "n"}, by(6, "n", "11 4 11", "5"), api.OK}, {pair{abjad, "n", plain, "a"}, api.Derivation{}, api.ErrNone},
	})
}

// P11.1, K1: words that no list of rules covers, and words that have rewritings but no form in common.
func TestBestOfWordsWithoutACommonForm(t *testing.T) {
	table := tableOf(rule(plain, "a", "a", 0), rule(plain, "aa", "b", 0), rule(plain, "bab", "c", 1), rule(plain, "b", "bb", 0), rule(abjad, "b", "ba", 0), rule(abjad, "d", "bb", 0), rule(plain, "e", "", 0), rule(abjad, "f", "b", 0))
	none := func(a int, x string, b int, y string) known {
		return known{pair{a, x, b, y}, api.Derivation{}, api.ErrNone}
	}
	cases := []known{
		none(plain, "k", plain, "k"), none(plain, "a", plain, "k"), none(plain, "ak", plain, "a"), none(plain, "ka", plain, "a"), none(plain, "aka", plain, "aka"), none(plain, "aaaaaaaaaaak", plain, "aaaaaaaaaaak"), none(abjad, "n", abjad, "n"), none(cased, "a", cased, "a"), none(syllab, "a", syllab, "a"), none(plain, "a", cased, "a"), none(plain, "a", syllab, "a"), none(cased, "A", plain, "a"),
		// One is a beginning of the other, they end alike, they have a letter more, or differ at the begin, in the middle, or at the end.
		none(plain, "a", plain, "b"), none(plain, "a", abjad, "b"), none(plain, "b", abjad, "b"), none(plain, "aaaaaaaaaaaa", plain, "aaaaa"), none(plain, "b", abjad, "f"), none(plain, "bb", abjad, "dbd"), none(plain, "e", plain, "a"), none(plain, "eee", abjad, "b"), none(plain, "aba", abjad, "bb"), none(plain, "bba", abjad, "df"),
	}
	checkKnown(t, table, cases)
	for i := range cases {
		cases[i].pair = cases[i].pair.swapped()
	}
	checkKnown(t, table, cases)
	checkKnown(t, table, []known{
		{pair{plain, "aa", abjad, "f"}, by(0, "b", "1", "7"), api.OK}, {pair{plain, "b", abjad, "d"}, by(0, "bb", "3", "5"), api.OK}, {pair{plain, "b", abjad, "ff"}, by(0, "bb", "3", "7 7"), api.OK}, {pair{plain, "aaa", abjad, "b"}, by(0, "ba", "1 0", "4"), api.OK}, {pair{plain, "bab", plain, "bab"}, by(0, "bbabb", "3 0 3", "3 0 3"), api.OK},
	})
}

// P11.1, K1: costs of 0 and of 1000, and words of 12 letters, whose derivations have 24 moves, or 36 letters as their form.
func TestBestOfLongWords(t *testing.T) {
	zeros, ones := rep("0 ", 12), rep("1 ", 12)
	dear := tableOf(rule(plain, "a", "a", 1000), rule(plain, "b", "a", 1000), rule(cased, "a'", "xyz", 1000), rule(syllab, "na", "", 1000), rule(abjad, "'", "", 1000))
	checkKnown(t, dear, []known{
		{pair{plain, rep("a", 12), plain, rep("b", 12)}, by(24000, rep("a", 12), zeros, ones), api.OK}, {pair{plain, rep("a", 12), plain, rep("a", 12)}, by(24000, rep("a", 12), zeros, zeros), api.OK}, {pair{cased, rep("A'", 12), cased, rep("a'", 12)}, by(24000, rep("xyz", 12), rep("2 ", 12), rep("2 ", 12)), api.OK},
		{pair{syllab, rep("na", 12), abjad, rep("'", 12)}, by(24000, "", rep("3 ", 12), rep("4 ", 12)), api.OK}, {pair{plain, rep("a", 12), plain, rep("b", 11)}, api.Derivation{}, api.ErrNone}, {pair{plain, rep("a", 11), plain, rep("b", 12)}, api.Derivation{}, api.ErrNone}, {pair{plain, rep("a", 12), abjad, rep("'", 12)}, api.Derivation{}, api.ErrNone}, {pair{plain, "a", plain, "b"}, by(2000, "a", "0", "1"), api.OK},
	})
	free := tableOf(rule(plain, "a", "a", 0), rule(plain, "b", "a", 0), rule(abjad, "b", "aaa", 0), rule(plain, "aaa", "aaa", 0))
	checkKnown(t, free, []known{
		{pair{plain, rep("a", 12), plain, rep("b", 12)}, by(0, rep("a", 12), zeros, ones), api.OK}, {pair{plain, rep("a", 12), abjad, rep("b", 4)}, by(0, rep("a", 12), zeros, rep("2 ", 4)), api.OK}, {pair{abjad, rep("b", 4), plain, rep("a", 12)}, by(0, rep("a", 12), rep("2 ", 4), zeros), api.OK},
	})
	// The last letter alone makes a difference, or the first one.
	free.Rules = append(free.Rules, rule(plain, "c", "c", 1000), rule(abjad, "t", "c", 1000))
	checkKnown(t, free, []known{
		{pair{plain, rep("a", 9) + "c", abjad, "bbbt"}, by(2000, rep("a", 9)+"c", rep("0 ", 9)+"4", "2 2 2 5"), api.OK}, {pair{plain, "c" + rep("a", 9), abjad, "tbbb"}, by(2000, "c"+rep("a", 9), "4"+rep(" 0", 9), "5 2 2 2"), api.OK}, {pair{plain, rep("a", 8) + "c", abjad, "bbbt"}, api.Derivation{}, api.ErrNone}, {pair{plain, rep("a", 11) + "c", abjad, "bbbb"}, api.Derivation{}, api.ErrNone},
	})
}

// P11.1, K1: tables with the rules of these tests in all orders, which make other derivations the first ones.
func TestBestWithRulesInAnyOrder(t *testing.T) {
	rules := []api.Rule{rule(plain, "a", "x", 1), rule(plain, "b", "yz", 1), rule(abjad, "b", "x", 1), rule(plain, "b", "y", 1), rule(abjad, "b", "xy", 1), rule(abjad, "d", "y", 1), rule(abjad, "d", "z", 1)}
	first := map[string]int{}
	var swap func(from int)
	swap = func(from int) {
		if from == len(rules) {
			table := tableOf(slices.Clone(rules)...)
			for _, p := range []pair{{plain, "ab", abjad, "bd"}, {abjad, "bd", plain, "ab"}} {
				want, _, err := wanted(table, p)
				checkBest(t, table, p, want, err)
				first[want.Form]++
			}
			return
		}
		for i := from; i < len(rules); i++ {
			rules[from], rules[i] = rules[i], rules[from]
			swap(from + 1)
			rules[from], rules[i] = rules[i], rules[from]
		}
	}
	swap(0)
	if first["xy"] < 2000 || first["xyz"] < 2000 {
		t.Fatalf("the forms of the first derivations are %v", first)
	}
}

// P11.1, K1, and P11.2: Best agrees with looking at all derivations, of which many have the least cost.
func TestBestAgreesWithAllDerivations(t *testing.T) {
	r := rand.New(rand.NewPCG(11, 1))
	none, one, several := 0, 0, 0
	for range 30000 {
		table, p := randomCase(r, pick(r, []int{8, 12, 16}), 5)
		want, equal, err := wanted(table, p)
		checkBest(t, table, p, want, err)
		switch {
		case equal > 1:
			several++
		case equal == 1:
			one++
		default:
			none++
		}
	}
	if min(none, one, several) < 2000 {
		t.Fatalf("%d pairs have no derivation, %d have one, and %d have several of the least cost", none, one, several)
	}
}

// P11.1, K1, and P11.2: Best agrees with keeping the first beginnings, for words of up to 12 letters and tables of up to 80 rules.
func TestBestAgreesWithAWalkFromTheBegin(t *testing.T) {
	r := rand.New(rand.NewPCG(11, 2))
	found, missing := 0, 0
	for range 1200 {
		table, p := randomCase(r, pick(r, []int{8, 20, 80}), 12)
		if r.IntN(2) == 0 {
			p.x, p.y = longWord(r, p.a), longWord(r, p.b)
		}
		want, err := walk(table, p)
		checkBest(t, table, p, want, err)
		if err == api.OK {
			found++
		} else {
			missing++
		}
	}
	if min(found, missing) < 200 {
		t.Fatalf("%d pairs have derivations, and %d have none", found, missing)
	}
}

// P11.1, K1: 80 rules for words of 12 equal letters, with more rewritings than could be looked at one by one.
func TestBestOfManyRules(t *testing.T) {
	texts := []string{""}
	for _, to := range strings.Fields("a b c") {
		texts = append(texts, to)
		for _, second := range strings.Fields("a b c") {
			texts = append(texts, to+second)
			for _, third := range strings.Fields("a b c") {
				texts = append(texts, to+second+third)
			}
		}
	}
	r := rand.New(rand.NewPCG(11, 3))
	for _, costs := range randomCosts {
		for _, scripts := range [][2]int{{plain, plain}, {plain, abjad}, {cased, syllab}} {
			var table api.Table
			for _, to := range texts {
				from := map[int]string{plain: "n", cased: "n", abjad: "n", syllab: "n"}
				table.Rules = append(table.Rules, rule(scripts[0], from[scripts[0]], to, pick(r, costs)))
				table.Rules = append(table.Rules, rule(scripts[1], rep(from[scripts[1]], 2), to, pick(r, costs)))
			}
			table.Rules = shuffled(r, table.Rules)
			for _, n := range []int{12, 7} {
				p := pair{scripts[0], rep("n", 12), scripts[1], rep("n", n)}
				want, err := walk(table, p)
				checkBest(t, table, p, want, err)
			}
		}
	}
}
