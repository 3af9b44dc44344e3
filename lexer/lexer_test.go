package lexer

import (
	"math/rand/v2"
	"regexp"
	"slices"
	"strconv"
	"strings"
	"testing"

	"customhouse/api"
)

const (
	letters    = "ABCDEFGHIJKLMNOPQRSTUVWXYZabcdefghijklmnopqrstuvwxyz"
	digits     = "0123456789"
	symbols    = ";,.:()[]{}=<>+-"
	greatest   = 9999999999999 // the greatest number
	everyKind  = "a7_\"#\n !<>=;\x80\r"
	everyToken = "a7_\"#\n !<>="
)

// lexed is what Lex returns.
type lexed struct {
	tokens []api.Token
	err    api.Errno
	at     int
}

// lex returns what Lex returns for a text.
func lex(text string) lexed {
	tokens, err, at := Lex(text)
	return lexed{tokens, err, at}
}

// same reports whether two results are equal.
func (l lexed) same(m lexed) bool {
	return slices.Equal(l.tokens, m.tokens) && l.err == m.err && l.at == m.at
}

// String returns the first tokens of a result, and its error.
func (l lexed) String() string {
	var b strings.Builder
	for _, t := range l.tokens[:min(len(l.tokens), 8)] {
		b.WriteString(shortened(t.Text) + " of kind " + strconv.Itoa(t.Kind) + " with " + strconv.Itoa(t.N) + " at " + strconv.Itoa(t.At) + ", ")
	}
	return b.String() + strconv.Itoa(len(l.tokens)) + " tokens, error " + strconv.Itoa(int(l.err)) + " at " + strconv.Itoa(l.at)
}

// name, number, quoted and symbol return tokens at an offset.
func name(at int, text string) api.Token   { return api.Token{Kind: api.TokName, At: at, Text: text} }
func quoted(at int, text string) api.Token { return api.Token{Kind: api.TokString, At: at, Text: text} }
func symbol(at int, text string) api.Token { return api.Token{Kind: api.TokSymbol, At: at, Text: text} }
func number(at int, text string, n int) api.Token {
	return api.Token{Kind: api.TokNumber, At: at, Text: text, N: n}
}

// written returns the bytes of a token in a text.
func written(t api.Token) string {
	if t.Kind == api.TokString {
		return "\"" + t.Text + "\""
	}
	return t.Text
}

// shifted returns tokens whose offsets are greater by a number.
func shifted(tokens []api.Token, by int) []api.Token {
	var l []api.Token
	for _, t := range tokens {
		t.At += by
		l = append(l, t)
	}
	return l
}

// placeless returns tokens without their offsets.
func placeless(tokens []api.Token) []api.Token {
	var l []api.Token
	for _, t := range tokens {
		t.At = 0
		l = append(l, t)
	}
	return l
}

// shortened returns the beginning of a text, for messages.
func shortened(text string) string {
	if len(text) > 60 {
		return strconv.Quote(text[:60]) + " and " + strconv.Itoa(len(text)-60) + " bytes more"
	}
	return strconv.Quote(text)
}

var (
	gapForm    = regexp.MustCompile(`^(?:[ \t\n]|#[^\n]*)*`)
	nameForm   = regexp.MustCompile(`^[A-Za-z][A-Za-z0-9_]*`)
	numberForm = regexp.MustCompile(`^[0-9]+`)
	wrongForm  = regexp.MustCompile(`^[0-9]+[A-Za-z_]`)
	stringForm = regexp.MustCompile(`^"[^"\n]*"`)
	symbolForm = regexp.MustCompile(`^(?:!=|<=|>=|[;,.:()\[\]{}=<>+-])`)
)

// first returns the token with which a text begins, or the error of what should be one.
func first(text string) (api.Token, api.Errno) {
	if s := nameForm.FindString(text); s != "" {
		if len(s) > 24 {
			return api.Token{}, api.ErrLimit
		}
		return name(0, s), api.OK
	}
	if s := numberForm.FindString(text); s != "" {
		if len(s) > 13 || wrongForm.MatchString(text) {
			return api.Token{}, api.ErrNumber
		}
		n := 0
		for _, digit := range s {
			n = 10*n + int(digit-'0')
		}
		return number(0, s, n), api.OK
	}
	if s := stringForm.FindString(text); s != "" {
		if len(s) > 402 {
			return api.Token{}, api.ErrLimit
		}
		return quoted(0, s[1:len(s)-1]), api.OK
	}
	if s := symbolForm.FindString(text); s != "" {
		return symbol(0, s), api.OK
	}
	if text[0] == '"' {
		return api.Token{}, api.ErrEnd
	}
	return api.Token{}, api.ErrChar
}

// wanted returns what Lex should return, by the forms of gaps and tokens.
func wanted(text string) lexed {
	if len(text) > 20000 {
		return lexed{nil, api.ErrLimit, -1}
	}
	var tokens []api.Token
	for at := 0; ; {
		at += len(gapForm.FindString(text[at:]))
		if at == len(text) {
			return lexed{tokens, api.OK, 0}
		}
		token, err := first(text[at:])
		if err == api.OK && len(tokens) == 5000 {
			err = api.ErrLimit
		}
		if err != api.OK {
			return lexed{nil, err, at}
		}
		token.At = at
		tokens = append(tokens, token)
		at += len(written(token))
	}
}

// eachText calls a function for each text of at most so many of these bytes.
func eachText(bytes string, most int, f func(string)) {
	var extend func(text string, left int)
	extend = func(text string, left int) {
		f(text)
		if left == 0 {
			return
		}
		for i := range len(bytes) {
			extend(text+bytes[i:i+1], left-1)
		}
	}
	extend("", most)
}

// pieces are tokens and gaps, at and beyond their limits, and bytes that begin no token.
func pieces() []string {
	l := []string{
		"a", "Z", "a1", "a_", "Z_9", "kai", strings.Repeat("a", 24), "b" + strings.Repeat("_", 23), strings.Repeat("a", 25),
		"0", "7", "007", "1234567890123", "0000000000000", "9999999999999", "12345678901234", "00000000000000",
		"\"\"", "\"a b\"", "\"#\"", "\"_\t\r\x80\"", "\"" + strings.Repeat("x", 400) + "\"", "\"" + strings.Repeat("x", 401) + "\"",
		"!=", "<=", ">=", " ", "  ", "\t", "\n", "#\n", "# a \"b\" \xff !\n", "#\n#\n", "#", "\"", "!", "_", "\r", "\x00", "\x7f", "\x80", "\u00e4", "@", "$", "'", "/", "*", "\\",
	}
	for i := range len(symbols) {
		l = append(l, symbols[i:i+1])
	}
	return l
}

// randomTexts are texts of pieces: of all of them, or only of those that have no error on their own.
func randomTexts(n int) []string {
	r := rand.New(rand.NewPCG(7, 1))
	all := pieces()
	var right []string
	for _, p := range all {
		if lex(p).err == api.OK && p != "#" {
			right = append(right, p)
		}
	}
	var l []string
	for i := range n {
		from, text := all, ""
		if i%4 != 0 {
			from = right
		}
		for range r.IntN(14) {
			text += from[r.IntN(len(from))]
			if r.IntN(3) == 0 {
				text += " "
			}
		}
		l = append(l, text)
	}
	return l
}

// longTexts are texts at and beyond the limits of a text, of a token, and of the number of tokens.
func longTexts() []string {
	full := strings.Repeat(";", 5000)
	l := []string{
		strings.Repeat(" ", 20000), strings.Repeat(" ", 20001), strings.Repeat("!", 20000), strings.Repeat("!", 20001),
		"#" + strings.Repeat("!", 19999), "#" + strings.Repeat("!", 20000), strings.Repeat("#\n", 10000), strings.Repeat("#\n", 10000) + " ",
		strings.Repeat("a", 20000), strings.Repeat("7", 20000), "\"" + strings.Repeat("x", 19998) + "\"", "\"" + strings.Repeat("x", 19999), strings.Repeat(" ", 19999) + "a", strings.Repeat(" ", 19999) + "!",
		strings.Repeat("; ", 5000), strings.Repeat(";   ", 5000), strings.Repeat(";   ", 5000) + " ", strings.Repeat("\"\"", 5000), strings.Repeat("<=", 5000), strings.Repeat("\"\"", 5001), strings.Repeat("<=", 5001), strings.Repeat("; ", 5001),
		full, full + "#" + strings.Repeat(";", 14999), full + strings.Repeat(" ", 15000), full + strings.Repeat(" ", 14999) + ";",
		strings.Repeat(";", 20000), strings.Repeat("7 ", 6000), strings.Repeat("a ", 6000),
	}
	for _, p := range pieces() {
		l = append(l, full+p, full+" #\n"+p, full+";"+p, full+p+";", full[1:]+p, full[1:]+p+";", full[1:]+p+"!", strings.Repeat(" ", 19000)+p)
	}
	return l
}

// someTexts are texts of all kinds, with errors and without.
func someTexts() []string {
	var l []string
	eachText(everyKind, 3, func(text string) { l = append(l, text) })
	return slices.Concat(l, randomTexts(6000), longTexts())
}

// P7.1.
func TestLexHasTheKnownTokens(t *testing.T) {
	for _, test := range []struct {
		text string
		want []api.Token
	}{
		{"row a1 at 7>=x# y", []api.Token{name(0, "row"), name(4, "a1"), name(7, "at"), number(10, "7", 7), symbol(11, ">="), name(13, "x")}},
		{"to \"\" \"a b\";", []api.Token{name(0, "to"), quoted(3, ""), quoted(6, "a b"), symbol(11, ";")}},
		{"", nil}, {" ", nil}, {"\t", nil}, {"\n", nil}, {"#", nil}, {"#\n", nil}, {"#x", nil}, {" \t\n #a\"!\xff\r\n\n# _ #", nil},
		{"a", []api.Token{name(0, "a")}}, {"\n\ta\n", []api.Token{name(2, "a")}},
		{"a#b\nc#d", []api.Token{name(0, "a"), name(4, "c")}}, {"a#\n#\nb", []api.Token{name(0, "a"), name(5, "b")}},
		{"A_z_0 z__ Z9a", []api.Token{name(0, "A_z_0"), name(6, "z__"), name(10, "Z9a")}},
		{"0", []api.Token{number(0, "0", 0)}}, {"007 10", []api.Token{number(0, "007", 7), number(4, "10", 10)}}, {"010", []api.Token{number(0, "010", 10)}},
		{"9999999999999", []api.Token{number(0, "9999999999999", greatest)}}, {"0000000000001", []api.Token{number(0, "0000000000001", 1)}},
		{"7;", []api.Token{number(0, "7", 7), symbol(1, ";")}}, {"7\"x\"8", []api.Token{number(0, "7", 7), quoted(1, "x"), number(4, "8", 8)}}, {"7#", []api.Token{number(0, "7", 7)}},
		{"-1.5", []api.Token{symbol(0, "-"), number(1, "1", 1), symbol(2, "."), number(3, "5", 5)}},
		{"a\"b\"\"c\"d", []api.Token{name(0, "a"), quoted(1, "b"), quoted(4, "c"), name(7, "d")}},
		{"\"# a\"#\"", []api.Token{quoted(0, "# a")}}, {"\" \"", []api.Token{quoted(0, " ")}}, {"\"7\" \"\\\"", []api.Token{quoted(0, "7"), quoted(4, "\\")}},
		{"\"\xff\r\x00\t\u00e4!\"", []api.Token{quoted(0, "\xff\r\x00\t\u00e4!")}},
		{"<<=>>=!==", []api.Token{symbol(0, "<"), symbol(1, "<="), symbol(3, ">"), symbol(4, ">="), symbol(6, "!="), symbol(8, "=")}},
		{"===", []api.Token{symbol(0, "="), symbol(1, "="), symbol(2, "=")}}, {"=<=>", []api.Token{symbol(0, "="), symbol(1, "<="), symbol(3, ">")}}, {"<>", []api.Token{symbol(0, "<"), symbol(1, ">")}},
		{"< = > =", []api.Token{symbol(0, "<"), symbol(2, "="), symbol(4, ">"), symbol(6, "=")}}, {"<#\n=", []api.Token{symbol(0, "<"), symbol(3, "=")}}, {"!=!=", []api.Token{symbol(0, "!="), symbol(2, "!=")}},
	} {
		if got := lex(test.text); !got.same(lexed{test.want, api.OK, 0}) {
			t.Errorf("Lex(%q) = %v", test.text, got)
		}
	}
}

// P7.1: the errors, with their offsets; of several in one text, the first one counts.
func TestLexHasTheKnownErrors(t *testing.T) {
	twentyFive, fourteen, long := strings.Repeat("a", 25), "12345678901234", strings.Repeat("x", 401)
	for _, test := range []struct {
		text string
		err  api.Errno
		at   int
	}{
		{"a !b", api.ErrChar, 2}, {"!", api.ErrChar, 0}, {"!!=", api.ErrChar, 0}, {"! =", api.ErrChar, 0}, {"a=!", api.ErrChar, 2}, {"!<", api.ErrChar, 0}, {"!=!", api.ErrChar, 2},
		{"_", api.ErrChar, 0}, {"a _a", api.ErrChar, 2}, {"\"\"_", api.ErrChar, 2}, {";_", api.ErrChar, 1},
		{"\x00", api.ErrChar, 0}, {"a\r", api.ErrChar, 1}, {"\r\n", api.ErrChar, 0}, {"#\n\r", api.ErrChar, 2}, {"\x7f", api.ErrChar, 0}, {"\x80", api.ErrChar, 0}, {"a\xff", api.ErrChar, 1}, {"7\u00e4", api.ErrChar, 1}, {"\u00a0", api.ErrChar, 0}, {"\v", api.ErrChar, 0}, {"\f", api.ErrChar, 0},
		{twentyFive, api.ErrLimit, 0}, {"\n" + twentyFive, api.ErrLimit, 1}, {"a" + strings.Repeat("_", 24), api.ErrLimit, 0}, {"; b" + strings.Repeat("1", 24), api.ErrLimit, 2},
		{"7x", api.ErrNumber, 0}, {"a 7_", api.ErrNumber, 2}, {fourteen, api.ErrNumber, 0}, {"; " + fourteen, api.ErrNumber, 2}, {"00000000000007", api.ErrNumber, 0}, {"1234567890123x", api.ErrNumber, 0}, {"12345678901234x", api.ErrNumber, 0}, {"0x1", api.ErrNumber, 0}, {"1_000", api.ErrNumber, 0}, {"-7Z", api.ErrNumber, 1},
		{"a \"b", api.ErrEnd, 2}, {"\"", api.ErrEnd, 0}, {"a\"", api.ErrEnd, 1}, {"\"a\nb\"", api.ErrEnd, 0}, {"\"\n\"", api.ErrEnd, 0}, {"\"\"\"", api.ErrEnd, 2}, {"\"a#b", api.ErrEnd, 0},
		{"\"" + long + "\"", api.ErrLimit, 0}, {" \"" + long + "\"", api.ErrLimit, 1}, {"\"" + long, api.ErrEnd, 0}, {"\"" + long + "\n\"", api.ErrEnd, 0}, {"\"" + strings.Repeat("\u00e4", 201) + "\"", api.ErrLimit, 0},
		{twentyFive + " !", api.ErrLimit, 0}, {"! " + twentyFive, api.ErrChar, 0}, {"7x \"", api.ErrNumber, 0}, {"\" 7x", api.ErrEnd, 0}, {"a\n! 7x", api.ErrChar, 2}, {"\"" + long + "\" !", api.ErrLimit, 0}, {"_7x", api.ErrChar, 0},
	} {
		if got := lex(test.text); !got.same(lexed{nil, test.err, test.at}) {
			t.Errorf("Lex(%s) = %v", shortened(test.text), got)
		}
	}
}

// P7.1: the limits of a text, of tokens, and of their number.
func TestLexHasItsLimits(t *testing.T) {
	full, twentyFive := strings.Repeat(";", 5000), strings.Repeat("a", 25)
	for _, test := range []struct {
		text   string
		tokens int
		err    api.Errno
		at     int
	}{
		{strings.Repeat(" ", 20000), 0, api.OK, 0}, {strings.Repeat(" ", 20001), 0, api.ErrLimit, -1}, {strings.Repeat("!", 20001), 0, api.ErrLimit, -1}, {strings.Repeat(";", 20001), 0, api.ErrLimit, -1}, {strings.Repeat("!", 20000), 0, api.ErrChar, 0},
		{strings.Repeat(" ", 19999) + "a", 1, api.OK, 0}, {strings.Repeat(" ", 19999) + "!", 0, api.ErrChar, 19999}, {strings.Repeat(" ", 19999) + "\"", 0, api.ErrEnd, 19999}, {strings.Repeat(" ", 20000) + "a", 0, api.ErrLimit, -1},
		{strings.Repeat("a", 24), 1, api.OK, 0}, {"\"" + strings.Repeat("x", 400) + "\"", 1, api.OK, 0},
		{full, 5000, api.OK, 0}, {full + " #;\n\t", 5000, api.OK, 0}, {strings.Repeat(";   ", 5000), 5000, api.OK, 0}, {full + "#" + strings.Repeat("!", 14999), 5000, api.OK, 0}, {strings.Repeat("\"\"", 5000), 5000, api.OK, 0},
		{full + ";", 0, api.ErrLimit, 5000}, {full + "a", 0, api.ErrLimit, 5000}, {full + "7", 0, api.ErrLimit, 5000}, {full + "\"\"", 0, api.ErrLimit, 5000}, {full + " #\n x", 0, api.ErrLimit, 5004}, {strings.Repeat("; ", 5001), 0, api.ErrLimit, 10000}, {full + ";!", 0, api.ErrLimit, 5000},
		{full + "!", 0, api.ErrChar, 5000}, {full + " _", 0, api.ErrChar, 5001}, {full + "7x", 0, api.ErrNumber, 5000}, {full + "\"", 0, api.ErrEnd, 5000}, {full + twentyFive, 0, api.ErrLimit, 5000}, {full + "! ;", 0, api.ErrChar, 5000},
		{full[1:] + "!", 0, api.ErrChar, 4999}, {full[2:] + "7x;;", 0, api.ErrNumber, 4998},
	} {
		got := lex(test.text)
		if len(got.tokens) != test.tokens || got.err != test.err || got.at != test.at {
			t.Errorf("Lex(%s) has %d tokens, error %d at %d", shortened(test.text), len(got.tokens), got.err, got.at)
		}
	}
}

// P7.1: each byte, on its own, in a string, in a comment, behind a name and behind a number.
func TestLexKnowsEachByte(t *testing.T) {
	for b := range 256 {
		c := string([]byte{byte(b)})
		alone, afterName, afterNumber := lexed{nil, api.ErrChar, 0}, lexed{nil, api.ErrChar, 1}, lexed{nil, api.ErrChar, 1}
		switch {
		case strings.Contains(" \t\n#", c):
			alone, afterName, afterNumber = lexed{}, lexed{tokens: []api.Token{name(0, "a")}}, lexed{tokens: []api.Token{number(0, "8", 8)}}
		case strings.Contains(letters, c):
			alone, afterName, afterNumber = lexed{tokens: []api.Token{name(0, c)}}, lexed{tokens: []api.Token{name(0, "a"+c)}}, lexed{nil, api.ErrNumber, 0}
		case strings.Contains(digits, c):
			alone, afterName, afterNumber = lexed{tokens: []api.Token{number(0, c, b-'0')}}, lexed{tokens: []api.Token{name(0, "a"+c)}}, lexed{tokens: []api.Token{number(0, "8"+c, 80+b-'0')}}
		case c == "_":
			afterName, afterNumber = lexed{tokens: []api.Token{name(0, "a_")}}, lexed{nil, api.ErrNumber, 0}
		case c == "\"":
			alone, afterName, afterNumber = lexed{nil, api.ErrEnd, 0}, lexed{nil, api.ErrEnd, 1}, lexed{nil, api.ErrEnd, 1}
		case strings.Contains(symbols, c):
			alone, afterName, afterNumber = lexed{tokens: []api.Token{symbol(0, c)}}, lexed{tokens: []api.Token{name(0, "a"), symbol(1, c)}}, lexed{tokens: []api.Token{number(0, "8", 8), symbol(1, c)}}
		}
		for text, want := range map[string]lexed{c: alone, "a" + c: afterName, "8" + c: afterNumber, "#" + c: {}} {
			if got := lex(text); !got.same(want) {
				t.Errorf("Lex(%q) = %v", text, got)
			}
		}
		inside := lexed{tokens: []api.Token{quoted(0, "x"+c+"y")}}
		if c == "\n" || c == "\"" {
			inside = lexed{nil, api.ErrEnd, 0}
		}
		if got := lex("\"x" + c + "y\""); c != "\"" && !got.same(inside) {
			t.Errorf("Lex of a string with %q = %v", c, got)
		}
	}
}

// P7.1: two symbols directly behind each other, in every order.
func TestLexDividesSymbols(t *testing.T) {
	l := []string{"!=", "<=", ">=", "!"}
	for i := range len(symbols) {
		l = append(l, symbols[i:i+1])
	}
	for _, one := range l {
		for _, two := range l {
			want := lexed{[]api.Token{symbol(0, one), symbol(len(one), two)}, api.OK, 0}
			switch {
			case two == "=" && (one == "<" || one == ">" || one == "!"):
				want = lexed{[]api.Token{symbol(0, one+two)}, api.OK, 0}
			case one == "!":
				want = lexed{nil, api.ErrChar, 0}
			case two == "!":
				want = lexed{nil, api.ErrChar, len(one)}
			}
			if got := lex(one + two); !got.same(want) {
				t.Errorf("Lex(%q) = %v", one+two, got)
			}
		}
	}
	eachText("<>=!", 7, func(text string) {
		if got, want := lex(text), wanted(text); !got.same(want) {
			t.Errorf("Lex(%q) = %v, not %v", text, got, want)
		}
	})
}

// P7.1: what Lex returns is what the forms of gaps and tokens say.
func TestLexFollowsTheForms(t *testing.T) {
	check := func(text string) {
		if got, want := lex(text), wanted(text); !got.same(want) {
			t.Fatalf("Lex(%s) = %v, not %v", shortened(text), got, want)
		}
	}
	eachText(everyKind, 4, check)
	eachText(everyToken, 5, check)
	for _, text := range slices.Concat(randomTexts(20000), longTexts()) {
		check(text)
	}
}

// P7.2.
func TestTokensStandAtTheirPlaces(t *testing.T) {
	isGap := func(text string) bool { return gapForm.FindString(text) == text }
	for _, text := range someTexts() {
		end := 0
		for _, token := range lex(text).tokens {
			if token.At < end || !isGap(text[end:token.At]) || !strings.HasPrefix(text[token.At:], written(token)) || written(token) == "" {
				t.Fatalf("%s has %v behind %d", shortened(text), token, end)
			}
			end = token.At + len(written(token))
		}
		if lex(text).err == api.OK && !isGap(text[end:]) {
			t.Fatalf("%s has more than a gap behind %d", shortened(text), end)
		}
	}
}

// P7.3.
func TestTokensCanBeReadAgain(t *testing.T) {
	for _, text := range someTexts() {
		tokens := lex(text).tokens
		var b strings.Builder
		for _, token := range tokens {
			b.WriteString(written(token) + " ")
		}
		if b.Len() > api.MaxSource {
			continue
		}
		again := lex(b.String())
		if again.err != api.OK || again.at != 0 || !slices.Equal(placeless(again.tokens), placeless(tokens)) {
			t.Fatalf("the tokens of %s are %v when they are read again", shortened(text), again)
		}
	}
}

// rightTexts returns those of some texts that have no error.
func rightTexts(texts []string) []string {
	return slices.DeleteFunc(slices.Clone(texts), func(text string) bool { return lex(text).err != api.OK })
}

// P7.4.
func TestTextsCanBePutBehindEachOther(t *testing.T) {
	check := func(one, two string) {
		if len(one)+len(two) >= api.MaxSource {
			return
		}
		a, b := lex(one).tokens, lex(two).tokens
		want := lexed{slices.Concat(a, shifted(b, len(one)+1)), api.OK, 0}
		if len(want.tokens) > api.MaxTokens {
			want = lexed{nil, api.ErrLimit, len(one) + 1 + b[api.MaxTokens-len(a)].At}
		}
		if got := lex(one + "\n" + two); !got.same(want) {
			t.Fatalf("%s before %s: %v", shortened(one), shortened(two), got)
		}
	}
	short := rightTexts(slices.Concat(randomTexts(300), pieces()))
	for _, one := range short {
		for _, two := range short {
			check(one, two)
		}
	}
	for _, long := range rightTexts(longTexts()) {
		for _, piece := range []string{"a", "0000000000000", "\"\"", "<=", "#", " "} {
			check(long, piece)
			check(piece, long)
		}
	}
	check(strings.Repeat(";", 4999), "a b")
	check(strings.Repeat(";", 3000), strings.Repeat("a ", 2000))
	check(strings.Repeat(";", 3000), strings.Repeat("a ", 2001))
}

// P7.5.
func TestErrorsAreWhereTheyBegin(t *testing.T) {
	found := 0
	for _, text := range someTexts() {
		got := lex(text)
		if got.err == api.OK || got.at == -1 {
			continue
		}
		found++
		before, after := lex(text[:got.at]), lex(text[got.at:])
		if before.err != api.OK {
			t.Fatalf("%s has its first error before %d: %v", shortened(text), got.at, before)
		}
		full := got.err == api.ErrLimit && len(before.tokens) == api.MaxTokens
		if !full && !after.same(lexed{nil, got.err, 0}) {
			t.Fatalf("%s from %d on has another error: %v", shortened(text), got.at, after)
		}
	}
	if found < 1000 {
		t.Fatalf("only %d texts have an error", found)
	}
}

// P7.6.
func TestGapsChangeOnlyOffsets(t *testing.T) {
	gaps := []string{" ", "\t", "\n", " \t\n\n ", "#\n", "# a \"b ! \xff\n", "#\n\t#\r\n"}
	for _, text := range slices.Concat(randomTexts(3000), pieces()) {
		got := lex(text)
		for _, gap := range gaps {
			if before := lex(gap + text); before.err != got.err || got.err != api.OK && before.at != got.at+len(gap) || !slices.Equal(before.tokens, shifted(got.tokens, len(gap))) {
				t.Fatalf("%s with %q before it: %v", shortened(text), gap, before)
			}
			if got.err != api.OK {
				continue
			}
			if after := lex(text + gap); !after.same(got) {
				t.Fatalf("%s with %q after it: %v", shortened(text), gap, after)
			}
			if after := lex(text + "#x"); !after.same(got) {
				t.Fatalf("%s with a comment after it: %v", shortened(text), after)
			}
			for i, token := range got.tokens {
				end := token.At + len(written(token))
				want := slices.Concat(got.tokens[:i+1], shifted(got.tokens[i+1:], len(gap)))
				if between := lex(text[:end] + gap + text[end:]); !between.same(lexed{want, api.OK, 0}) {
					t.Fatalf("%s with %q at %d: %v", shortened(text), gap, end, between)
				}
			}
		}
	}
}

// P7.7.
func TestNeighboursAreNotOneToken(t *testing.T) {
	found := 0
	for _, text := range someTexts() {
		tokens := lex(text).tokens
		for i := 1; i < min(len(tokens), 50); i++ {
			one, two := written(tokens[i-1]), written(tokens[i])
			if tokens[i-1].At+len(one) != tokens[i].At {
				continue
			}
			found++
			if both := lex(one + two).tokens; len(both) != 2 || both[1].At != len(one) {
				t.Fatalf("%q and %q are %v together", one, two, both)
			}
		}
	}
	if found < 1000 {
		t.Fatalf("only %d tokens follow another one directly", found)
	}
}

// P7.8.
func TestWordsAreOneToken(t *testing.T) {
	one := func(text string, want api.Token) {
		if got := lex(text); !got.same(lexed{[]api.Token{want}, api.OK, 0}) {
			t.Fatalf("Lex(%q) = %v", text, got)
		}
	}
	r := rand.New(rand.NewPCG(7, 8))
	for n := range 401 {
		for range 20 {
			word := letters[r.IntN(len(letters)):][:1]
			for len(word) < n && len(word) < api.MaxName {
				all := letters + digits + "_"
				word += all[r.IntN(len(all)):][:1]
			}
			one(word, name(0, word))
			inside := make([]byte, n)
			for i := range inside {
				if inside[i] = byte(r.IntN(256)); inside[i] == '"' || inside[i] == '\n' {
					inside[i] = '#'
				}
			}
			one("\""+string(inside)+"\"", quoted(0, string(inside)))
			drawn := r.IntN(greatest + 1)
			one(strconv.Itoa(drawn), number(0, strconv.Itoa(drawn), drawn))
		}
	}
	for n := range 13 {
		power := 1
		for range n {
			power *= 10
		}
		for _, m := range []int{power - 1, power, power + 1, greatest, greatest - power} {
			one(strconv.Itoa(m), number(0, strconv.Itoa(m), m))
		}
	}
}

// P1: texts of any length end, and no text has tokens together with an error, or an offset without one.
func TestLexEnds(t *testing.T) {
	for _, c := range []string{";", " ", "a", "7", "\"", "#", "!", "\n", "#\n", "\"\"", "<=", "\x80"} {
		for _, n := range []int{20000 / len(c), 20000/len(c) + 1, 1 << 24} {
			text := strings.Repeat(c, n)
			if got := lex(text); len(text) > 20000 && !got.same(lexed{nil, api.ErrLimit, -1}) {
				t.Fatalf("Lex of %d times %q = error %d at %d", n, c, got.err, got.at)
			}
		}
	}
	for _, text := range someTexts() {
		got := lex(text)
		if got.err != api.OK && len(got.tokens) != 0 || got.err == api.OK && got.at != 0 {
			t.Fatalf("Lex(%s) has %d tokens, error %d at %d", shortened(text), len(got.tokens), got.err, got.at)
		}
	}
}

// P3: a result depends on nothing but the text, and callers may change what they got.
func TestLexOfEqualTexts(t *testing.T) {
	for _, text := range append(randomTexts(500), longTexts()...) {
		one := lex(text)
		want := slices.Clone(one.tokens)
		for i := range one.tokens {
			one.tokens[i] = api.Token{}
		}
		lex("other " + text)
		if again := lex(strings.Clone(text)); !again.same(lexed{want, one.err, one.at}) {
			t.Fatalf("Lex(%s) = %v at last", shortened(text), again)
		}
	}
}
