package rewrite_test

import (
	"fmt"
	"math/rand/v2"
	"regexp"
	"slices"
	"sort"
	"strings"
	"testing"

	"customhouse/api"
	"customhouse/lexer"
	"customhouse/rewrite"
)

const (
	oneRule   = `rule plain "a" to "a" cost 0;`
	oneDrop   = `drop plain "a" 1;`
	oneEnd    = `end plain "a" 1;`
	lastLine  = `costs 1 2 3;`
	shortText = oneRule + lastLine
)

// written returns the text that a table should have.
func written(t api.Table) string {
	text := ""
	for _, r := range t.Rules {
		text += fmt.Sprintf("rule %s \"%s\" to \"%s\" cost %d;\n", scriptWords[r.Script], r.From, r.To, r.Cost)
	}
	for _, d := range t.Drops {
		text += fmt.Sprintf("drop %s \"%s\" %d;\n", scriptWords[d.Script], d.Word, d.Cost)
	}
	for _, d := range t.Ends {
		text += fmt.Sprintf("end %s \"%s\" %d;\n", scriptWords[d.Script], d.Word, d.Cost)
	}
	return text + fmt.Sprintf("costs %d %d %d;\n", t.Drop, t.Order, t.Initial)
}

// parsed is what Parse returns.
type parsed struct {
	table api.Table
	err   api.Errno
	at    int
}

// parse returns what Parse returns for a text.
func parse(text string) parsed {
	table, err, at := rewrite.Parse(text)
	return parsed{table, err, at}
}

// failed returns the result with an error at an offset.
func failed(err api.Errno, at int) parsed { return parsed{api.Table{}, err, at} }

// same reports whether two results are equal.
func (p parsed) same(q parsed) bool {
	return sameTable(p.table, q.table) && p.err == q.err && p.at == q.at
}

// tableForm is the form of a whole table, in which each kind of token is a byte.
var tableForm = regexp.MustCompile(`\A(rsStSkN;)+(dsSN;)*(esSN;)*cNNN;\z`)

// code returns the byte for the kind of a token, and x for a token that is in no table.
func code(t api.Token) byte {
	switch t.Kind {
	case api.TokString:
		return 'S'
	case api.TokNumber:
		return 'N'
	case api.TokSymbol:
		if t.Text == ";" {
			return ';'
		}
		return 'x'
	}
	switch t.Text {
	case "rule":
		return 'r'
	case "drop":
		return 'd'
	case "end":
		return 'e'
	case "costs":
		return 'c'
	case "to":
		return 't'
	case "cost":
		return 'k'
	case "plain", "cased", "abjad", "syllab":
		return 's'
	}
	return 'x'
}

// continues says whether something behind these tokens makes a table of them: nothing, or the rest of a line and what may follow it.
func continues(codes string) bool {
	for _, whole := range []string{"rsStSkN;cNNN;", "dsSN;cNNN;", "esSN;cNNN;"} {
		for i := range len(whole) + 1 {
			if tableForm.MatchString(codes + whole[i:]) {
				return true
			}
		}
	}
	return false
}

// mayStand says whether a string may be the last token of a line that has begun with these tokens.
func mayStand(line []api.Token) bool {
	text, begin := line[len(line)-1].Text, line[0].Text
	script := slices.Index(scriptWords, line[1].Text)
	switch {
	case begin == "rule" && len(line) == 5:
		return toForm.MatchString(text)
	case begin == "rule":
		return isFolded(script, text, 3)
	case begin == "drop":
		return isFolded(script, text, 12)
	}
	return isFolded(script, text, 4)
}

// extended returns a table with what a whole line says, and whether a valid table may have it too.
func extended(t api.Table, line []api.Token) (api.Table, bool) {
	script := slices.Index(scriptWords, line[1].Text)
	switch line[0].Text {
	case "rule":
		one := rule(script, line[2].Text, line[4].Text, line[6].N)
		for _, o := range t.Rules {
			if o.Script == one.Script && o.From == one.From && o.To == one.To {
				return t, false
			}
		}
		t.Rules = append(t.Rules, one)
	case "drop":
		t.Drops = append(t.Drops, drop(script, line[2].Text, line[3].N))
		return t, areDrops(t.Drops, 12)
	case "end":
		t.Ends = append(t.Ends, drop(script, line[2].Text, line[3].N))
		return t, areDrops(t.Ends, 4)
	case "costs":
		t.Drop, t.Order, t.Initial = line[1].N, line[2].N, line[3].N
	}
	return t, true
}

// wanted returns what Parse should return for a text, token by token.
func wanted(text string) parsed {
	tokens, err, at := lexer.Lex(text)
	if err != api.OK {
		return failed(err, at)
	}
	codes := ""
	for _, token := range tokens {
		codes += string(code(token))
	}
	// What does not continue a table is not continued by more.
	wrong := sort.Search(len(tokens), func(i int) bool { return !continues(codes[:i+1]) })
	var table api.Table
	start := 0
	for i, token := range tokens[:wrong] {
		line := tokens[start : i+1]
		switch codes[i] {
		case 'r', 'd', 'e':
			if len(table.Rules) == 80 && codes[i] == 'r' || len(table.Drops) == 40 && codes[i] == 'd' || len(table.Ends) == 40 && codes[i] == 'e' {
				return failed(api.ErrLimit, token.At)
			}
		case 'S':
			if !mayStand(line) {
				return failed(api.ErrArg, token.At)
			}
		case 'N':
			if token.N > 1000 {
				return failed(api.ErrRange, token.At)
			}
		case ';':
			next, ok := extended(table, line)
			if !ok {
				return failed(api.ErrTwice, token.At)
			}
			table, start = next, i+1
		}
	}
	switch {
	case wrong < len(tokens):
		return failed(api.ErrSyntax, tokens[wrong].At)
	case !tableForm.MatchString(codes):
		return failed(api.ErrEnd, len(text))
	}
	return parsed{table, api.OK, 0}
}

// checkText fails a test if Parse of a text is not what it should be, and returns the error.
func checkText(t *testing.T, text string) api.Errno {
	t.Helper()
	got, want := parse(text), wanted(text)
	if !got.same(want) {
		t.Fatalf("Parse of %s is %v, not %v", shortened(text), got, want)
	}
	return got.err
}

// checkError fails a test if Parse of a text, in which @ is put before the offset, has not this error there.
func checkError(t *testing.T, marked string, want api.Errno) {
	t.Helper()
	before, after, _ := strings.Cut(marked, "@")
	text := before + after
	if got := parse(text); !got.same(failed(want, len(before))) {
		t.Errorf("Parse of %s has the error %d at %d, not %d at %d (table: %v)", shortened(text), got.err, got.at, want, len(before), got.table)
	}
	if got := wanted(text); !got.same(failed(want, len(before))) {
		t.Errorf("the test expects the error %d at %d for %s", got.err, got.at, shortened(text))
	}
}

// tokenTexts returns the tokens of a text as they are written.
func tokenTexts(text string) []string {
	return regexp.MustCompile(`"[^"]*"|[A-Za-z0-9_]+|;`).FindAllString(text, -1)
}

// manyRules returns the lines of so many rules.
func manyRules(n int) string {
	text := ""
	for i := range n {
		text += fmt.Sprintf("rule plain \"%c%c\" to \"\" cost 0;", 'a'+i/9, 'a'+i%9)
	}
	return text
}

// manyDrops returns the lines of so many drops, or ends.
func manyDrops(begin string, n int) string {
	text := ""
	for i := range n {
		text += fmt.Sprintf("%s plain \"%c%c\" 0;", begin, 'a'+i/9, 'a'+i%9)
	}
	return text
}

// P10.1, J4: the chapter's example, and other texts that are known.
func TestTextsOfKnownTables(t *testing.T) {
	for _, test := range []struct {
		table api.Table
		text  string
	}{
		{api.Table{Rules: []api.Rule{rule(plain, "th", "t", 2)}, Drops: []api.Drop{drop(plain, "al", 1)}, Ends: []api.Drop{drop(cased, "tik", 3)}, Drop: 4, Order: 2, Initial: 1}, "rule plain \"th\" to \"t\" cost 2;\ndrop plain \"al\" 1;\nend cased \"tik\" 3;\ncosts 4 2 1;\n"},
		{single(), "rule plain \"a\" to \"b\" cost 7;\ncosts 0 0 0;\n"},
		{api.Table{Rules: []api.Rule{rule(syllab, "nanana", "", 1000)}, Drop: 1000, Order: 0, Initial: 10}, "rule syllab \"nanana\" to \"\" cost 1000;\ncosts 1000 0 10;\n"},
		{api.Table{Rules: []api.Rule{rule(cased, "a'b`c^", "xyz", 10), rule(abjad, "'''", "", 0), rule(cased, "a", "a", 100)}, Drops: []api.Drop{drop(syllab, "n", 0), drop(plain, "n", 1000), drop(abjad, "'", 5)}, Ends: []api.Drop{drop(abjad, "'n'n", 20), drop(cased, "o^", 0)}, Order: 1}, "rule cased \"a'b`c^\" to \"xyz\" cost 10;\nrule abjad \"'''\" to \"\" cost 0;\nrule cased \"a\" to \"a\" cost 100;\ndrop syllab \"n\" 0;\ndrop plain \"n\" 1000;\ndrop abjad \"'\" 5;\nend abjad \"'n'n\" 20;\nend cased \"o^\" 0;\ncosts 0 1 0;\n"},
		{api.Table{Rules: []api.Rule{rule(plain, "to", "to", 1)}, Drops: []api.Drop{drop(plain, "rule", 1), drop(plain, "end", 1), drop(plain, "costs", 1)}, Ends: []api.Drop{drop(plain, "end", 1), drop(plain, "cost", 1)}}, "rule plain \"to\" to \"to\" cost 1;\ndrop plain \"rule\" 1;\ndrop plain \"end\" 1;\ndrop plain \"costs\" 1;\nend plain \"end\" 1;\nend plain \"cost\" 1;\ncosts 0 0 0;\n"},
	} {
		if got, err := rewrite.Text(test.table); got != test.text || err != api.OK {
			t.Errorf("Text of %v is %q, %d", test.table, got, err)
		}
		if got := parse(test.text); !got.same(parsed{test.table, api.OK, 0}) {
			t.Errorf("Parse of %q is %v", test.text, got)
		}
	}
}

// P10.7: a valid table is parsed from its text, which is as the words say.
func TestTablesAreParsedFromTheirTexts(t *testing.T) {
	tables := append(someTables(1500), endings(), numbered(80, 40, 40), numbered(1, 40, 40))
	for _, table := range tables {
		text, err := rewrite.Text(table)
		if text != written(table) || err != api.OK {
			t.Fatalf("Text of %v is %q, %d", table, text, err)
		}
		if got := parse(text); !got.same(parsed{table, api.OK, 0}) {
			t.Fatalf("Parse of %q is %v, not %v", text, got, table)
		}
	}
	for i, script := range all {
		table := api.Table{Rules: []api.Rule{rule(script, "n", "n", 1)}, Drops: []api.Drop{drop(script, "n", 2)}, Ends: []api.Drop{drop(script, "n", 3)}}
		text := strings.ReplaceAll("rule * \"n\" to \"n\" cost 1;\ndrop * \"n\" 2;\nend * \"n\" 3;\ncosts 0 0 0;\n", "*", []string{"plain", "cased", "abjad", "syllab"}[i])
		if got, err := rewrite.Text(table); got != text || err != api.OK {
			t.Fatalf("Text of a table of the script %d is %q, %d", script, got, err)
		}
		if got := parse(text); !got.same(parsed{table, api.OK, 0}) {
			t.Fatalf("Parse of %q is %v", text, got)
		}
	}
}

// P10.7: rows at the limits of what is allowed stand in texts, and others do not.
func TestTextsWithEachRow(t *testing.T) {
	for _, r := range goodRules() {
		table := api.Table{Rules: []api.Rule{r}}
		if got := parse(written(table)); !got.same(parsed{table, api.OK, 0}) {
			t.Errorf("Parse of %q is %v", written(table), got)
		}
	}
	for _, letters := range []int{4, 12} {
		for _, d := range goodDrops(letters) {
			drops, ends := single(), single()
			drops.Drops, ends.Ends = []api.Drop{d}, []api.Drop{d}
			if got := parse(written(drops)); !got.same(parsed{drops, api.OK, 0}) {
				t.Errorf("Parse of %q is %v", written(drops), got)
			}
			if got := parse(written(ends)); isValid(ends) && !got.same(parsed{ends, api.OK, 0}) {
				t.Errorf("Parse of %q is %v", written(ends), got)
			}
			checkText(t, written(ends))
		}
	}
	for _, table := range invalidTables() {
		scripts := []int{}
		for _, r := range table.Rules {
			scripts = append(scripts, r.Script)
		}
		for _, d := range append(slices.Clone(table.Drops), table.Ends...) {
			scripts = append(scripts, d.Script)
		}
		if slices.ContainsFunc(scripts, func(s int) bool { return !slices.Contains(all, s) }) {
			continue
		}
		if err := checkText(t, written(table)); err == api.OK {
			t.Fatalf("Parse of %q has no error", written(table))
		}
	}
}

// P10.7: what is parsed from a text is valid, and its text is parsed to the same table, with any gaps and leading zeros.
func TestParsedTablesAreValid(t *testing.T) {
	r := rand.New(rand.NewPCG(10, 14))
	gaps := []string{" ", "\n", "\t", "  ", " \t\n", "# x\n", "#\n\n", " # rule \"a\" !\n "}
	for _, table := range someTables(600) {
		text := ""
		for _, token := range tokenTexts(written(table)) {
			if token[0] >= '0' && token[0] <= '9' {
				token = rep("0", r.IntN(14-len(token))) + token
			}
			text += pick(r, gaps) + token
			if r.IntN(3) == 0 && token[0] == ';' {
				text += pick(r, gaps)
			}
		}
		if len(text) > api.MaxSource {
			continue
		}
		got := parse(text)
		if !got.same(parsed{table, api.OK, 0}) || !rewrite.Valid(got.table) {
			t.Fatalf("Parse of %s is %v, not %v", shortened(text), got, table)
		}
		again, err := rewrite.Text(got.table)
		if again != written(table) || err != api.OK || !parse(again).same(got) {
			t.Fatalf("Parse of %s has another text: %q, %d", shortened(text), again, err)
		}
	}
}

// P10.1, J4: gaps of all kinds, no gaps where none are needed, and numbers with leading zeros.
func TestGapsOfTexts(t *testing.T) {
	want := parsed{api.Table{Rules: []api.Rule{rule(plain, "a", "b", 7)}, Drops: []api.Drop{drop(cased, "al", 10)}, Ends: []api.Drop{drop(abjad, "'", 0)}, Drop: 4, Order: 20, Initial: 1000}, api.OK, 0}
	for _, text := range []string{
		`rule plain "a" to "b" cost 7; drop cased "al" 10; end abjad "'" 0; costs 4 20 1000;`,
		`rule plain"a"to"b"cost 7;drop cased"al"10;end abjad"'"0;costs 4 20 1000;`,
		"\n\t rule\nplain\t\"a\"  to\n\n\"b\"#x\ncost#y\n7 ;#\ndrop cased \"al\" 10\n;end abjad \"'\" 0\t;costs\n4\n20\n1000\n;\n\n",
		`rule plain "a" to "b" cost 0007; drop cased "al" 0000000000010; end abjad "'" 000; costs 04 0020 0000000001000;`,
		`rule plain "a" to "b" cost 7;drop cased "al" 10;end abjad "'" 0;costs 4 20 1000;# rule "`,
		"# table\nrule plain \"a\" to \"b\" cost 7;\ndrop cased \"al\" 10;\nend abjad \"'\" 0;\ncosts 4 20 1000;\n" + rep(" ", 19000),
	} {
		if got := parse(text); !got.same(want) {
			t.Errorf("Parse of %s is %v", shortened(text), got)
		}
	}
}

// P10.1, J4: tokens that do not continue a table, at each place.
func TestWrongTokens(t *testing.T) {
	for _, marked := range []string{
		"@costs 1 2 3;", `@drop plain "a" 1;` + oneRule, `@end plain "a" 1;`, "@;", "@7", `@"rule" plain`, `@Rule plain "a" to "a" cost 0;`, "@rules", "@RULE", "@to", "@plain", "@cost", "  @x", "@-", "@rule1 plain",
		"rule @latin", `rule @latin "a" to "a" cost 0;`, "rule @Plain", "rule @CASED", `rule @"plain" "a"`, "rule @1", "rule @;", "rule @rule", `rule @"a"`, "rule @to", "rule @plain_", "rule @syllable",
		"rule plain @a", "rule plain @7", "rule plain @;", "rule plain @plain", "rule plain @to", "rule plain @=",
		`rule plain "a" @"a"`, `rule plain "a" @TO "a"`, `rule plain "a" @To`, `rule plain "a" @into`, `rule plain "a" @cost 0;`, `rule plain "a" @= "b"`, `rule plain "a" @"to" "a"`, `rule plain "a" @0;`, `rule plain "a" @;`, `rule plain "a" @> "b"`,
		`rule plain "a" to @b`, `rule plain "a" to @cost`, `rule plain "a" to @1`, `rule plain "a" to @;`, `rule plain "a" to @to`,
		`rule plain "a" to "b" @costs 0;`, `rule plain "a" to "b" @0;`, `rule plain "a" to "b" @;`, `rule plain "a" to "b" @"cost" 0;`, `rule plain "a" to "b" @Cost 0;`, `rule plain "a" to "b" @"c"`, `rule plain "a" to "b" @to`,
		`rule plain "a" to "b" cost @;`, `rule plain "a" to "b" cost @-1;`, `rule plain "a" to "b" cost @"1";`, `rule plain "a" to "b" cost @x;`, `rule plain "a" to "b" cost @+1;`, `rule plain "a" to "b" cost @cost`,
		`rule plain "a" to "b" cost 0 @,`, `rule plain "a" to "b" cost 0 @rule`, `rule plain "a" to "b" cost 0 @1;`, `rule plain "a" to "b" cost 0 @";"`, `rule plain "a" to "b" cost 0@.5;`, `rule plain "a" to "b" cost 0 @: costs`,
		oneRule + "@;", oneRule + "@7", oneRule + `@"rule"`, oneRule + `@"drop" plain "a" 1;`, oneRule + "@to", oneRule + "@plain", oneRule + "@Rule", oneRule + "@Drop", oneRule + "@drops", oneRule + "@ends", oneRule + "@End", oneRule + "@cost 1 2 3;", oneRule + "@Costs 1 2 3;", oneRule + `@"costs" 1 2 3;`, oneRule + " @x",
		oneRule + `drop @"a" 1;`, oneRule + `drop @latin "a" 1;`, oneRule + `drop @Plain "a" 1;`, oneRule + `drop @"plain" "a" 1;`, oneRule + "drop plain @a 1;", oneRule + "drop plain @1;", oneRule + `drop plain "a" @cost 1;`, oneRule + `drop plain "a" @to "b" cost 1;`, oneRule + `drop plain "a" @;`, oneRule + `drop plain "a" @"1";`, oneRule + `drop plain "a" @-1;`, oneRule + `drop plain "a" 1 @1;`, oneRule + `drop plain "a" 1 @end`, oneRule + `drop plain "a" 1 @";"`,
		oneRule + `end @"a" 1;`, oneRule + `end @latin "a" 1;`, oneRule + `end @SYLLAB "a" 1;`, oneRule + "end plain @a 1;", oneRule + "end plain @1;", oneRule + `end plain "a" @cost 1;`, oneRule + `end plain "a" @to "b" cost 1;`, oneRule + `end plain "a" @;`, oneRule + `end plain "a" @"1";`, oneRule + `end plain "a" 1 @1;`, oneRule + `end plain "a" 1 @drop`, oneRule + "end@;",
		oneRule + oneDrop + `@rule plain "b" to "b" cost 0;` + lastLine, oneRule + oneEnd + `@rule plain "b" to "b" cost 0;`, oneRule + oneEnd + `@drop plain "b" 1;` + lastLine, oneRule + oneDrop + oneEnd + "@drop", oneRule + oneDrop + oneEnd + "@rule", oneRule + oneDrop + "@;", oneRule + oneEnd + "@x", oneRule + oneDrop + "@cost",
		oneRule + "costs @;", oneRule + "costs 1 @;", oneRule + "costs 1 2 @;", oneRule + "costs 1 2 3 @4;", oneRule + "costs @x", oneRule + `costs @"1" 2 3;`, oneRule + "costs 1@, 2, 3;", oneRule + "costs 1 2 3@.", oneRule + "costs @-1 2 3;", oneRule + "costs 1 @x", oneRule + "costs 1 2 @x", oneRule + "costs 1 2 3 @x", oneRule + "costs @cost 1", oneRule + "costs 1 2 3 @rule", oneRule + `costs 1 2 3 @";"`,
		shortText + "@;", shortText + "@rule", shortText + " @" + oneRule, shortText + "@" + lastLine, shortText + `@"x"`, shortText + "@7", shortText + "\n@x", shortText + "@" + oneDrop, shortText + "@" + oneEnd, shortText + "@end", shortText + " @= = =",
		// A line may not begin with rule once there is a drop or an end, however many rules there are; and not with drop once there is an end.
		manyRules(80) + oneDrop + "@rule", manyRules(80) + oneEnd + "@rule", manyRules(80) + lastLine + "@rule", oneRule + manyDrops("drop", 40) + oneEnd + "@drop", oneRule + manyDrops("drop", 40) + manyDrops("end", 40) + "@drop",
	} {
		checkError(t, marked, api.ErrSyntax)
	}
}

// P10.1, J4: strings that may not be the From, the To or the Word where they stand.
func TestWrongStrings(t *testing.T) {
	for _, marked := range []string{
		`rule plain @"A" to "a" cost 0;`, `rule plain @""`, `rule plain @"abcd"`, `rule plain @"a'"`, `rule plain @"a b"`, `rule plain @"a1"`, `rule plain @" "`, "rule plain @\"\u00e9\"",
		`rule cased @"A"`, `rule cased @"aB"`, `rule cased @"A'"`, `rule cased @"'a"`, `rule cased @"a'b'c'd'"`, `rule cased @"abcd"`, `rule cased @""`, `rule cased @"a''"`,
		`rule abjad @"a"`, `rule abjad @"''''"`, `rule abjad @"bdfg"`, `rule abjad @"ba"`, `rule abjad @"B"`, `rule abjad @""`, `rule abjad @"c"`,
		`rule syllab @"k"`, `rule syllab @"aiue"`, `rule syllab @"nananana"`, `rule syllab @"sta"`, `rule syllab @"Na"`, `rule syllab @""`, `rule syllab @"nnnn"`,
		`rule plain "a" to @"abcd"`, `rule plain "a" to @"A"`, `rule plain "a" to @"a'"`, `rule plain "a" to @" "`, `rule plain "a" to @"1" cost 0;`, `rule cased "a" to @"a'"`, `rule abjad "'" to @"'"`, `rule syllab "na" to @"kana"`, `rule cased "a" to @"B"`, "rule plain \"a\" to @\"\u00e9\"", `rule plain "a" to @"ab "`,
		oneRule + `drop plain @"abcdefghijklm" 1;`, oneRule + `drop plain @""`, oneRule + `drop plain @"Al" 1;`, oneRule + `drop cased @"Al"`, oneRule + `drop abjad @"al"`, oneRule + `drop syllab @"al"`, oneRule + `drop cased @"'"`, oneRule + `drop plain @"a b"`, oneRule + `drop cased @"` + rep("a'", 13) + `" 1;`, oneRule + oneDrop + `drop plain @"B" 1;`,
		oneRule + `end plain @"abcde" 1;`, oneRule + `end plain @""`, oneRule + `end plain @"A"`, oneRule + `end cased @"A'"`, oneRule + `end cased @"a'b'c'd'e'"`, oneRule + `end abjad @"'''''"`, oneRule + `end abjad @"a"`, oneRule + `end syllab @"nanananana"`, oneRule + `end syllab @"nnnnn"`, oneRule + `end syllab @"k"`, oneRule + oneEnd + `end plain @"abcde" 1;`, oneRule + oneDrop + `end plain @"abcde"`,
	} {
		checkError(t, marked, api.ErrArg)
	}
}

// P10.1, J4: numbers greater than 1000, and those that layer 7 refuses.
func TestWrongNumbers(t *testing.T) {
	for _, number := range []string{"1001", "1002", "2000", "9999", "10000", "65536", "4294967296", "4294967297", "9999999999999", "0000000001001", "1001001001001"} {
		for _, marked := range []string{`rule plain "a" to "a" cost @*;`, `rule plain "a" to "a" cost @* x`, `rule plain "a" to "a" cost @*`, oneRule + `drop plain "a" @*;`, oneRule + `end plain "a" @*;`, oneRule + oneDrop + `end plain "a" @*`, oneRule + "costs @* 2 3;", oneRule + "costs 1 @* 3;", oneRule + "costs 1 2 @*;", oneRule + "costs 1 2 @* ; ;", oneRule + "costs @* 1001 1001;"} {
			checkError(t, strings.ReplaceAll(marked, "*", number), api.ErrRange)
		}
	}
	for _, number := range []string{"10000000000000", "00000000000000", "00000000000001", "12345678901234567890", "9223372036854775808", rep("9", 400), "1x", "0_", "1001x"} {
		for _, marked := range []string{`rule plain "a" to "a" cost @*;`, oneRule + `drop plain "a" @*;` + lastLine, oneRule + "costs 1 2 @*;", "rule x @*", "@*"} {
			checkError(t, strings.ReplaceAll(marked, "*", number), api.ErrNumber)
		}
	}
	for _, number := range []string{"0", "1", "999", "1000", "01", "0001000", "0000000000000", "0000000001000"} {
		for _, text := range []string{`rule plain "a" to "a" cost *;` + lastLine, oneRule + `drop plain "a" *;` + lastLine, oneRule + `end plain "a" *;` + lastLine, oneRule + "costs * * *;"} {
			if err := checkText(t, strings.ReplaceAll(text, "*", number)); err != api.OK {
				t.Errorf("%q with %s has the error %d", text, number, err)
			}
		}
	}
}

// P10.1, J4: rules, drops and ends that are there twice, with the same cost and with another one; and such as are not.
func TestTwiceInOneText(t *testing.T) {
	for _, marked := range []string{
		oneRule + `rule plain "a" to "a" cost 0@;`, oneRule + `rule plain "a" to "a" cost 1@;` + lastLine, oneRule + `rule plain "b" to "a" cost 0;rule plain "a" to "a" cost 5 @;`, `rule cased "a'" to "" cost 3;rule cased "a'" to "" cost 4@; x`, oneRule + `rule cased "a" to "a" cost 0;rule plain "a" to "b" cost 0; rule cased "a" to "a" cost 0@;`, manyRules(79) + `rule plain "aa" to "" cost 7@;`,
		oneRule + oneDrop + `drop plain "a" 1@;`, oneRule + oneDrop + `drop plain "a" 2@;` + lastLine, oneRule + oneDrop + `drop plain "b" 1;drop cased "a" 1;drop plain "a" 2@;`, oneRule + manyDrops("drop", 39) + `drop plain "aa" 9@;`, oneRule + `drop abjad "'" 1;drop abjad "'" 1@;`,
		oneRule + oneEnd + `end plain "a" 1@;`, oneRule + oneEnd + `end plain "a" 2@;` + lastLine, oneRule + oneDrop + oneEnd + `end plain "b" 1;end cased "a" 1;end plain "a" 2@;`, oneRule + manyDrops("end", 39) + `end plain "aa" 9@;`, oneRule + `end syllab "na" 1;end syllab "na" 1@;`,
	} {
		checkError(t, marked, api.ErrTwice)
	}
	for _, text := range []string{
		oneRule + `rule plain "a" to "b" cost 0;rule plain "b" to "a" cost 0;rule cased "a" to "a" cost 0;rule plain "a" to "" cost 0;` + oneDrop + oneEnd + lastLine,
		oneRule + oneDrop + `drop cased "a" 1;drop plain "b" 1;` + oneEnd + `end cased "a" 1;end plain "b" 1;` + lastLine,
		`rule plain "a" to "bc" cost 0;rule plain "ab" to "c" cost 0;rule plain "abc" to "" cost 0;` + lastLine,
	} {
		if err := checkText(t, text); err != api.OK {
			t.Errorf("%q has the error %d", text, err)
		}
	}
}

// P10.1, J4: the numbers of rules, drops and ends.
func TestTheNumberOfLines(t *testing.T) {
	for _, text := range []string{manyRules(80) + lastLine, manyRules(80) + manyDrops("drop", 40) + manyDrops("end", 40) + lastLine, oneRule + manyDrops("drop", 40) + lastLine, oneRule + manyDrops("end", 40) + lastLine, manyRules(1) + manyDrops("drop", 1) + manyDrops("end", 1) + lastLine, oneRule + lastLine} {
		if err := checkText(t, text); err != api.OK {
			t.Errorf("%s has the error %d", shortened(text), err)
		}
	}
	for _, before := range []string{manyRules(80) + "@rule", oneRule + manyDrops("drop", 40) + "@drop", oneRule + oneDrop + manyDrops("end", 40) + "@end", manyRules(80) + manyDrops("drop", 40) + manyDrops("end", 40) + "@end"} {
		for _, after := range []string{"", ` plain "z" to "z" cost 0;` + lastLine, ` plain "z" 0;` + lastLine, " latin", " plain 7", ` plain "A"`, ` plain "aa" to "" cost 0;`, ` plain "aa" 0;`, ";", " costs 1 2 3;"} {
			checkError(t, before+after, api.ErrLimit)
		}
	}
	checkError(t, manyRules(80)+"@rules", api.ErrSyntax)
	checkError(t, manyRules(80)+"@Rule", api.ErrSyntax)
	checkError(t, manyRules(80)+"@\"rule\"", api.ErrSyntax)
}

// longText is a text with rules, drops and ends of all scripts, with gaps of all kinds.
func longText() string {
	return "# a table\n" + written(mixed()) + "\t# its end"
}

// P10.1, J4: texts that end at each place have the error ErrEnd, at their end.
func TestTextsThatEndTooEarly(t *testing.T) {
	for _, text := range []string{"", " ", "\n", "#", "# rule", "rule", "rule ", oneRule[:len(oneRule)-1], oneRule, oneRule + "\n", oneRule + "# x\n ", oneRule + oneDrop, oneRule + oneEnd, oneRule + oneDrop + oneEnd, oneRule + "costs", oneRule + "costs 1", oneRule + "costs 1 2", oneRule + "costs 1 2 3", oneRule + "costs 1 2 3 # ;", oneRule + "drop", oneRule + "end plain", manyRules(80), manyRules(80) + manyDrops("drop", 40) + manyDrops("end", 40)} {
		checkError(t, text+"@", api.ErrEnd)
	}
	for _, whole := range []string{written(mixed()), written(example()), shortText, oneRule + oneEnd + lastLine} {
		text := ""
		tokens := tokenTexts(whole)
		for i, token := range tokens {
			for _, gap := range []string{"", " ", "\n\t", " # x", " #\n"} {
				if i < len(tokens) {
					checkError(t, text+gap+"@", api.ErrEnd)
				}
			}
			text += " " + token
		}
		if err := checkText(t, text); err != api.OK {
			t.Errorf("Parse of %s has the error %d", shortened(text), err)
		}
	}
	for i := range len(longText()) {
		checkText(t, longText()[:i])
	}
}

// P10.1, J4: errors of layer 7 come first, wherever they are.
func TestErrorsOfLayer7(t *testing.T) {
	for marked, want := range map[string]api.Errno{
		"@!": api.ErrChar, oneRule + "@\"": api.ErrEnd, oneRule + "@7x": api.ErrNumber, oneRule + "@?": api.ErrChar, "rule plain @\"a\nb\"": api.ErrEnd, "rule plain @'a'": api.ErrChar, shortText + "@_": api.ErrChar, shortText + "@\x00": api.ErrChar, shortText + "\r@": api.ErrChar, "\ufeff" + shortText: api.ErrChar, "rule latin \"A\" to \"ABCD\" cost 1001 @!": api.ErrChar, "costs @12345678901234;": api.ErrNumber, shortText + " x @1x": api.ErrNumber, oneRule + oneRule + "@\"": api.ErrEnd,
		"rule plain @\"" + rep("a", 401) + "\"": api.ErrLimit, "@" + rep("a", 25): api.ErrLimit, "x " + shortText + "@" + rep("r", 25): api.ErrLimit, rep(";", 5000) + "@;": api.ErrLimit, manyRules(81) + "@!": api.ErrChar,
	} {
		before, _, found := strings.Cut(marked, "@")
		switch {
		case !found:
			marked = "@" + marked
		case strings.HasSuffix(before, "\r"):
			marked = strings.TrimSuffix(before, "\r") + "@\r"
		}
		checkError(t, marked, want)
	}
	// The limits of layer 7 are those of the tokens, and the errors of tables come behind them.
	checkError(t, "@"+rep(";", 5000), api.ErrSyntax)
	checkError(t, "rule plain @\""+rep("a", 400)+"\"", api.ErrArg)
	checkError(t, "rule @"+rep("a", 24), api.ErrSyntax)
	for _, text := range []string{rep(" ", 20001), shortText + rep(" ", 20001-len(shortText)), rep("!", 20001), rep("x ", 10001)} {
		if got := parse(text); !got.same(failed(api.ErrLimit, -1)) {
			t.Errorf("Parse of %d bytes is %v", len(text), got)
		}
	}
	if got := parse(rep(" ", 20000-len(shortText)) + shortText); got.err != api.OK || len(got.table.Rules) != 1 {
		t.Errorf("Parse of 20000 bytes is %v", got)
	}
	checkError(t, rep(" ", 20000)+"@", api.ErrEnd)
}

// P10.1, J4: of several errors the first one counts, and a token has its own error before what comes behind it.
func TestTwoErrorsInOneText(t *testing.T) {
	for _, test := range []struct {
		marked string
		want   api.Errno
	}{
		{`rule @latin "A" to "ABCD" cost 1001;`, api.ErrSyntax}, {`rule plain @"A" to "ABCD" cost 1001;`, api.ErrArg}, {`rule plain "a" to @"ABCD" cost 1001;`, api.ErrArg}, {`rule plain "a" to "a" cost @1001,`, api.ErrRange}, {`rule plain @"A" of`, api.ErrArg}, {`rule plain "a" @of "ABCD"`, api.ErrSyntax},
		{oneRule + `rule plain "a" to "a" cost @1001;`, api.ErrRange}, {oneRule + `rule plain "a" to "a" cost 0@; rule plain "A"`, api.ErrTwice}, {oneRule + `rule plain "a" to "a" cost 0 @,`, api.ErrSyntax}, {oneRule + `rule plain "a" to "a" cost 0@`, api.ErrEnd}, {oneRule + oneDrop + `drop plain "a" @1001;`, api.ErrRange}, {oneRule + oneDrop + `drop plain "a" 1@; end latin`, api.ErrTwice}, {oneRule + oneEnd + `end plain "a" 1@; costs 1001`, api.ErrTwice},
		{manyRules(80) + `@rule latin`, api.ErrLimit}, {manyRules(40) + `rule plain "aa" to "" cost 0@;` + manyRules(80), api.ErrTwice}, {oneRule + manyDrops("drop", 40) + `@drop plain "aa" 0;`, api.ErrLimit}, {oneRule + manyDrops("end", 40) + `@end plain "aa" 0;`, api.ErrLimit}, {oneRule + "costs @1001 2000 3 4", api.ErrRange}, {oneRule + "costs 1 @; 1001", api.ErrSyntax}, {oneRule + "costs 1 2 @1001", api.ErrRange}, {`rule plain @"A"`, api.ErrArg}, {`rule @Plain`, api.ErrSyntax}, {"@; rule", api.ErrSyntax},
	} {
		checkError(t, test.marked, test.want)
	}
}

// P10.1, J4: texts in which a token is changed, left out, put in or moved.
func TestTextsWithChangedTokens(t *testing.T) {
	others := []string{"rule", "drop", "end", "costs", "to", "cost", "plain", "cased", "abjad", "syllab", "latin", "Rule", `"a"`, `""`, `"n"`, `"A'"`, `"na"`, `"abcd"`, `"nnnnn"`, `";"`, `"rule"`, "0", "1", "1000", "1001", "007", ";", ",", "-", "="}
	counts := map[api.Errno]int{}
	for _, whole := range []string{oneRule + oneDrop + oneEnd + lastLine, written(mixed()), written(endings())} {
		tokens := tokenTexts(whole)
		check := func(changed ...[]string) { counts[checkText(t, strings.Join(slices.Concat(changed...), " "))]++ }
		for i := range tokens {
			check(tokens[:i], tokens[i+1:])
			check(tokens[:i+1], tokens[i:])
			if i > 0 {
				check(tokens[:i-1], tokens[i:i+1], tokens[i-1:i], tokens[i+1:])
			}
			for _, other := range others {
				check(tokens[:i], []string{other}, tokens[i+1:])
				if len(tokens) < 30 {
					check(tokens[:i], []string{other}, tokens[i:])
				}
			}
		}
	}
	for _, err := range []api.Errno{api.OK, api.ErrSyntax, api.ErrArg, api.ErrRange, api.ErrTwice} {
		if counts[err] < 10 {
			t.Errorf("only %d texts have the error %d", counts[err], err)
		}
	}
}

// P10.1, J4: texts in which a line is left out, doubled or moved.
func TestTextsWithChangedLines(t *testing.T) {
	for _, table := range []api.Table{example(), mixed(), single(), endings()} {
		lines := strings.SplitAfter(strings.TrimSuffix(written(table), "\n"), "\n")
		for i := range lines {
			checkText(t, strings.Join(slices.Delete(slices.Clone(lines), i, i+1), ""))
			for j := range lines {
				moved := slices.Delete(slices.Clone(lines), i, i+1)
				checkText(t, strings.Join(slices.Insert(moved, min(j, len(moved)), lines[i]), "\n"))
				checkText(t, strings.Join(slices.Insert(slices.Clone(lines), j, lines[i]), "\n"))
			}
		}
	}
}

// P10.1, J4: texts in which one byte is changed, left out or put in.
func TestTextsWithChangedBytes(t *testing.T) {
	whole := oneRule + "\n" + `drop cased "a'" 10;end syllab "na"1000;` + lastLine
	for i := range len(whole) + 1 {
		for b := range 256 {
			c := string([]byte{byte(b)})
			if i < len(whole) {
				checkText(t, whole[:i]+c+whole[i+1:])
			}
			if b%3 == i%3 || b == '"' || b == ';' {
				checkText(t, whole[:i]+c+whole[i:])
			}
		}
		if i < len(whole) {
			checkText(t, whole[:i]+whole[i+1:])
		}
	}
}

// P10.1, J4: texts of tokens in any order, of which many begin like a table.
func TestTextsOfAnyTokens(t *testing.T) {
	r := rand.New(rand.NewPCG(10, 15))
	lines := []string{`rule * "n" to "a" cost 1 ;`, `rule * "n" to "b" cost 2 ;`, `rule * "nn" to "" cost 1000 ;`, `drop * "n" 1 ;`, `drop * "nn" 3 ;`, `end * "n" 5 ;`, `end * "nn" 5 ;`, `costs 1 2 3 ;`}
	counts := map[api.Errno]int{}
	for range 6000 {
		var chosen []int
		for range r.IntN(8) {
			chosen = append(chosen, r.IntN(len(lines)))
		}
		if r.IntN(4) > 0 {
			slices.Sort(chosen)
			chosen = append(append([]int{0}, chosen...), len(lines)-1)
		}
		var tokens []string
		for _, i := range chosen {
			tokens = append(tokens, strings.Fields(strings.ReplaceAll(lines[i], "*", scriptWords[pick(r, all)]))...)
		}
		if len(tokens) > 0 && r.IntN(3) == 0 {
			tokens[r.IntN(len(tokens))] = pick(r, append(tokens, "1001", `"A"`, "x"))
		}
		counts[checkText(t, strings.Join(tokens, " "))]++
	}
	for _, err := range []api.Errno{api.OK, api.ErrSyntax, api.ErrArg, api.ErrRange, api.ErrTwice, api.ErrEnd} {
		if counts[err] < 10 {
			t.Errorf("only %d texts have the error %d", counts[err], err)
		}
	}
}
