package rewrite_test

import (
	"math/rand/v2"
	"slices"
	"strings"
	"testing"

	"customhouse/api"
	"customhouse/rewrite"
)

// variant returns a variant.
func variant(word string, end, cost int) api.Variant {
	return api.Variant{Word: word, End: end, Cost: cost}
}

// endings is a table with many ends that are the last letters of each other.
func endings() api.Table {
	return api.Table{
		Rules: []api.Rule{rule(plain, "a", "a", 0)},
		Ends: []api.Drop{
			drop(plain, "nna", 7), drop(plain, "a", 3), drop(cased, "na", 2), drop(plain, "anna", 1000), drop(syllab, "na", 2), drop(syllab, "a", 1), drop(plain, "na", 0), drop(syllab, "ana", 4),
			drop(cased, "a", 5), drop(cased, "a'", 6), drop(cased, "n^a'", 8), drop(abjad, "'", 9), drop(abjad, "n'", 10), drop(syllab, "n", 11), drop(syllab, "iwa", 12), drop(syllab, "niwa", 13), drop(plain, "l", 14), drop(syllab, "nana", 15),
		},
		Drop: 4,
	}
}

// P10.1, J3: the chapter's examples, ends that are the whole word, several ends in the order of the table, and ends whose bytes are the last ones of a word, but whose letters are not.
func TestVariantsOfKnownWords(t *testing.T) {
	for _, test := range []struct {
		table  api.Table
		script int
		word   string
		folded string
		others []api.Variant
	}{
		{example(), plain, "anna", "anna", []api.Variant{variant("ann", 0, 3)}}, {example(), plain, "a", "a", nil}, {example(), plain, "aa", "aa", []api.Variant{variant("a", 0, 3)}}, {example(), plain, "an", "an", nil}, {example(), cased, "anna", "anna", nil}, {single(), plain, "anna", "anna", nil}, {full(), plain, "anna", "anna", nil},
		{endings(), plain, "anna", "anna", []api.Variant{variant("a", 0, 7), variant("ann", 1, 3), variant("an", 6, 0)}}, {endings(), plain, "nna", "nna", []api.Variant{variant("nn", 1, 3), variant("n", 6, 0)}}, {endings(), plain, "na", "na", []api.Variant{variant("n", 1, 3)}}, {endings(), plain, "a", "a", nil}, {endings(), plain, "tanna", "tanna", []api.Variant{variant("ta", 0, 7), variant("tann", 1, 3), variant("t", 3, 1000), variant("tan", 6, 0)}}, {endings(), plain, "l", "l", nil}, {endings(), plain, "al", "al", []api.Variant{variant("a", 16, 14)}}, {endings(), plain, "nan", "nan", nil}, {endings(), plain, "aaaaaaaaaaaa", "aaaaaaaaaaaa", []api.Variant{variant("aaaaaaaaaaa", 1, 3)}}, {endings(), plain, "zzzzzzzzanna", "zzzzzzzzanna", []api.Variant{variant("zzzzzzzza", 0, 7), variant("zzzzzzzzann", 1, 3), variant("zzzzzzzz", 3, 1000), variant("zzzzzzzzan", 6, 0)}},
		{endings(), cased, "Anna", "anna", []api.Variant{variant("an", 2, 2), variant("ann", 8, 5)}}, {endings(), cased, "ANNA", "anna", []api.Variant{variant("an", 2, 2), variant("ann", 8, 5)}}, {endings(), cased, "anna'", "anna'", []api.Variant{variant("ann", 9, 6)}}, {endings(), cased, "N^a'", "n^a'", []api.Variant{variant("n^", 9, 6)}}, {endings(), cased, "An^A'", "an^a'", []api.Variant{variant("an^", 9, 6), variant("a", 10, 8)}}, {endings(), cased, "A", "a", nil}, {endings(), cased, "A'", "a'", nil}, {endings(), cased, "a'a", "a'a", []api.Variant{variant("a'", 8, 5)}}, {endings(), cased, "na^", "na^", nil}, {endings(), cased, "n^a", "n^a", []api.Variant{variant("n^", 8, 5)}}, {endings(), cased, "Nna", "nna", []api.Variant{variant("n", 2, 2), variant("nn", 8, 5)}},
		{endings(), abjad, "bn'", "bn'", []api.Variant{variant("bn", 11, 9), variant("b", 12, 10)}}, {endings(), abjad, "n'", "n'", []api.Variant{variant("n", 11, 9)}}, {endings(), abjad, "'", "'", nil}, {endings(), abjad, "'n", "'n", nil}, {endings(), abjad, "''", "''", []api.Variant{variant("'", 11, 9)}},
		{endings(), syllab, "na", "na", nil}, {endings(), syllab, "kana", "kana", []api.Variant{variant("ka", 4, 2)}}, {endings(), syllab, "ana", "ana", []api.Variant{variant("a", 4, 2)}}, {endings(), syllab, "kaana", "kaana", []api.Variant{variant("kaa", 4, 2), variant("ka", 7, 4)}}, {endings(), syllab, "kaa", "kaa", []api.Variant{variant("ka", 5, 1)}}, {endings(), syllab, "naniwa", "naniwa", []api.Variant{variant("na", 15, 13)}}, {endings(), syllab, "niwa", "niwa", nil}, {endings(), syllab, "nkiiwa", "nkiiwa", []api.Variant{variant("nki", 14, 12)}}, {endings(), syllab, "kin", "kin", []api.Variant{variant("ki", 13, 11)}}, {endings(), syllab, "n", "n", nil}, {endings(), syllab, "nn", "nn", []api.Variant{variant("n", 13, 11)}}, {endings(), syllab, "nana", "nana", []api.Variant{variant("na", 4, 2)}}, {endings(), syllab, "anana", "anana", []api.Variant{variant("ana", 4, 2), variant("a", 17, 15)}}, {endings(), syllab, "nka", "nka", nil}, {endings(), syllab, "nnana", "nnana", []api.Variant{variant("nna", 4, 2), variant("n", 17, 15)}}, {endings(), syllab, "nnna", "nnna", []api.Variant{variant("nn", 4, 2)}},
		// The longest ends, of words with the most letters.
		{full(), cased, rep("h`", 3) + "a'", "h`h`h`a'", nil}, {full(), cased, "H`" + rep("h`", 3) + "A'", "h`h`h`h`a'", []api.Variant{variant("h`", 0, 1000)}}, {full(), cased, rep("H`", 11) + "T^", rep("h`", 11) + "t^", []api.Variant{variant(rep("h`", 8), 39, 1000)}},
	} {
		want := append([]api.Variant{variant(test.folded, -1, 0)}, test.others...)
		if got, err := rewrite.Variants(test.table, test.script, test.word); !slices.Equal(got, want) || err != api.OK {
			t.Errorf("Variants of %q in %d is %v, %d", test.word, test.script, got, err)
		}
	}
}

// P10.1, J3: drops that are there, and that are not.
func TestDroppingOfKnownWords(t *testing.T) {
	table := api.Table{
		Rules: []api.Rule{rule(plain, "a", "a", 0)},
		Drops: []api.Drop{drop(cased, "al", 5), drop(plain, "al", 1), drop(plain, "a", 0), drop(cased, "e^l'", 1000), drop(abjad, "'l", 2), drop(syllab, "n", 3), drop(syllab, "nana", 6), drop(plain, "abcdefghijkl", 8), drop(plain, "ell", 9)},
		Ends:  []api.Drop{drop(plain, "ila", 11), drop(cased, "ila", 12)},
		Drop:  4, Order: 21, Initial: 22,
	}
	for _, test := range []struct {
		table  api.Table
		script int
		word   string
		want   int
	}{
		{example(), plain, "al", 1}, {example(), plain, "anna", 4}, {example(), plain, "a", 4}, {example(), plain, "l", 4}, {example(), plain, "la", 4}, {example(), plain, "all", 4}, {example(), plain, "aal", 4}, {example(), cased, "al", 4}, {example(), abjad, "l", 4}, {single(), plain, "a", 0}, {full(), plain, "a", 1000},
		{table, plain, "al", 1}, {table, plain, "a", 0}, {table, plain, "abcdefghijkl", 8}, {table, plain, "abcdefghijk", 4}, {table, plain, "ell", 9}, {table, plain, "el", 4}, {table, plain, "ila", 4}, {table, plain, "nana", 4}, {table, plain, "n", 4}, {table, plain, "b", 4},
		{table, cased, "al", 5}, {table, cased, "Al", 5}, {table, cased, "AL", 5}, {table, cased, "aL", 5}, {table, cased, "a", 4}, {table, cased, "e^l'", 1000}, {table, cased, "E^L'", 1000}, {table, cased, "El", 4}, {table, cased, "e^l", 4}, {table, cased, "a'l", 4}, {table, cased, "Ila", 4},
		{table, abjad, "'l", 2}, {table, abjad, "l", 4}, {table, abjad, "l'", 4}, {table, abjad, "n", 4}, {table, abjad, "'", 4},
		{table, syllab, "n", 3}, {table, syllab, "nana", 6}, {table, syllab, "na", 4}, {table, syllab, "nn", 4}, {table, syllab, "a", 4},
	} {
		if got, err := rewrite.Dropping(test.table, test.script, test.word); got != test.want || err != api.OK {
			t.Errorf("Dropping of %q in %d is %d, %d, not %d", test.word, test.script, got, err, test.want)
		}
	}
}

// P10.1, J3: 40 drops and 40 ends, of which each is found.
func TestManyDropsAndEnds(t *testing.T) {
	table := full()
	for i := range 40 {
		table.Drops[i].Cost, table.Ends[i].Cost = i, 1000-i
	}
	for i, d := range table.Drops {
		if got, err := rewrite.Dropping(table, cased, strings.ToUpper(d.Word)); got != i || err != api.OK {
			t.Errorf("Dropping of %q is %d, %d", d.Word, got, err)
		}
		checkVariants(t, table, cased, d.Word)
	}
	for i, d := range table.Ends {
		want := []api.Variant{variant("x'"+d.Word, -1, 0), variant("x'", i, 1000-i)}
		if got, err := rewrite.Variants(table, cased, "x'"+d.Word); !slices.Equal(got, want) || err != api.OK {
			t.Errorf("Variants of %q is %v, %d", d.Word, got, err)
		}
	}
	// Ends of which one is the end of the other.
	for i := range table.Ends {
		table.Ends[i].Word = string([]byte("abcdefghij"[i/4 : i/4+1]))
		table.Ends[i].Word = rep("z", i%4) + table.Ends[i].Word
	}
	got, err := rewrite.Variants(table, cased, "zzzzc")
	want := []api.Variant{variant("zzzzc", -1, 0), variant("zzzz", 8, 992), variant("zzz", 9, 991), variant("zz", 10, 990), variant("z", 11, 989)}
	if !slices.Equal(got, want) || err != api.OK {
		t.Errorf("Variants of zzzzc is %v, %d", got, err)
	}
}

// eachWord calls a function with tables, scripts and words, of which many have endings, or are drops, of the table.
func eachWord(f func(table api.Table, script int, word string)) {
	r := rand.New(rand.NewPCG(10, 10))
	for _, table := range append(someTables(600), endings()) {
		for _, script := range all {
			words := []string{randomWord(r, script, 12), randomWord(r, script, 4), randomWord(r, script, 2)}
			for _, d := range append(slices.Clone(table.Drops), table.Ends...) {
				if d.Script == script {
					words = append(words, d.Word, randomWord(r, script, 6)+d.Word)
				}
			}
			for _, word := range words {
				// What was put together may have more than 12 letters.
				f(table, script, word)
			}
		}
	}
}

// P10.1, J3: Variants and Dropping agree with looking for each beginning of a word.
func TestVariantsAgreeWithAllBeginnings(t *testing.T) {
	r := rand.New(rand.NewPCG(10, 11))
	found, dropped := 0, 0
	eachWord(func(table api.Table, script int, word string) {
		checkVariants(t, table, script, word)
		checkVariants(t, table, script, raised(r, script, word))
		l, cost, _ := wantedVariants(table, script, word)
		if len(l) > 1 {
			found++
		}
		if cost != table.Drop {
			dropped++
		}
	})
	if found < 1000 || dropped < 1000 {
		t.Fatalf("only %d words have endings, and %d are drops", found, dropped)
	}
}

// P10.5: a word and the folded word have the same variants and the same cost of dropping.
func TestVariantsOfFoldedWords(t *testing.T) {
	r := rand.New(rand.NewPCG(10, 12))
	eachWord(func(table api.Table, script int, word string) {
		if script != cased {
			return
		}
		l, err := rewrite.Variants(table, script, word)
		n, failed := rewrite.Dropping(table, script, word)
		for _, other := range []string{strings.ToUpper(word), raised(r, script, word)} {
			if got, e := rewrite.Variants(table, script, other); !slices.Equal(got, l) || e != err {
				t.Fatalf("Variants of %q is %v, %d, and not that of %q", other, got, e, word)
			}
			if got, e := rewrite.Dropping(table, script, other); got != n || e != failed {
				t.Fatalf("Dropping of %q is %d, %d, and not that of %q", other, got, e, word)
			}
		}
	})
}

// P10.6: each variant with an end, with the Word of this end after it, is the folded word.
func TestVariantsWithTheirEnds(t *testing.T) {
	r := rand.New(rand.NewPCG(10, 13))
	found := 0
	eachWord(func(table api.Table, script int, word string) {
		l, err := rewrite.Variants(table, script, raised(r, script, word))
		if err != api.OK {
			return
		}
		if len(l) == 0 || l[0] != variant(word, -1, 0) {
			t.Fatalf("Variants of %q is %v", word, l)
		}
		last := -1
		for _, v := range l[1:] {
			if v.End <= last || v.End >= len(table.Ends) {
				t.Fatalf("Variants of %q is %v", word, l)
			}
			end := table.Ends[v.End]
			if v.Word+end.Word != word || v.Word == "" || end.Script != script || v.Cost != end.Cost {
				t.Fatalf("%q has the variant %v with the end %v", word, v, end)
			}
			if n := len(divided(script, v.Word)) + len(divided(script, end.Word)); n != len(divided(script, word)) {
				t.Fatalf("%q has the variant %v, with other letters", word, v)
			}
			last = v.End
			found++
		}
	})
	if found < 1000 {
		t.Fatalf("the words have only %d endings", found)
	}
}

// P10.8: drops and ends of other scripts make no difference, but for the indices of those behind them.
func TestDropsOfOtherScripts(t *testing.T) {
	eachWord(func(table api.Table, script int, word string) {
		l, err := rewrite.Variants(table, script, word)
		n, failed := rewrite.Dropping(table, script, word)
		own := cloned(table)
		foreign := func(d api.Drop) bool { return d.Script != script }
		own.Drops = slices.DeleteFunc(own.Drops, foreign)
		own.Ends = slices.DeleteFunc(own.Ends, foreign)
		fewer, e := rewrite.Variants(own, script, word)
		if e != err || len(fewer) != len(l) {
			t.Fatalf("Variants of %q is %v, %d, and without ends of other scripts %v, %d", word, l, err, fewer, e)
		}
		for i, v := range fewer {
			if v.End >= 0 {
				v.End = slices.Index(table.Ends, own.Ends[v.End])
			}
			if v != l[i] {
				t.Fatalf("Variants of %q has %v, and without ends of other scripts %v", word, l[i], fewer[i])
			}
		}
		if got, e := rewrite.Dropping(own, script, word); got != n || e != failed {
			t.Fatalf("Dropping of %q is %d, %d, and without drops of other scripts %d, %d", word, n, failed, got, e)
		}
	})
	// Words that are words of several scripts, with the ends and drops of each.
	table := api.Table{Rules: []api.Rule{rule(plain, "a", "a", 0)}, Drop: 9}
	for i, script := range []int{syllab, cased, plain} {
		table.Ends = append(table.Ends, drop(script, "na", 10+i))
		table.Drops = append(table.Drops, drop(script, "kana", 20+i))
	}
	for i, script := range []int{syllab, cased, plain} {
		if got, err := rewrite.Variants(table, script, "kana"); !slices.Equal(got, []api.Variant{variant("kana", -1, 0), variant("ka", i, 10+i)}) || err != api.OK {
			t.Errorf("Variants of kana in %d is %v, %d", script, got, err)
		}
		if got, err := rewrite.Dropping(table, script, "kana"); got != 20+i || err != api.OK {
			t.Errorf("Dropping of kana in %d is %d, %d", script, got, err)
		}
	}
}
