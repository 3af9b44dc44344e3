package script_test

import (
	"math"
	"math/rand/v2"
	"regexp"
	"slices"
	"strconv"
	"strings"
	"testing"

	"customhouse/api"
	"customhouse/script"
)

const (
	plain  = api.ScriptPlain
	cased  = api.ScriptCased
	abjad  = api.ScriptAbjad
	syllab = api.ScriptSyllab

	everyKind = "anskAZc'^` :\t\x80" // bytes of letters of each kind, and bytes that are in none
	syllables = "aiunksy "           // bytes of one script, of which few texts consist of letters
)

// all are the scripts.
var all = []int{plain, cased, abjad, syllab}

// noScripts are numbers of no script.
var noScripts = []int{0, 5, -1, 6, 8, 255, 256, 257, -4, 1 << 32, 1<<32 + 1, math.MaxInt, math.MinInt, math.MinInt + 1}

// prefixes are what texts begin with.
var prefixes = []string{plain: "plain:", cased: "cased:", abjad: "abjad:", syllab: "syllab:"}

// forms are the forms of letters at the beginning of a text.
var forms = []*regexp.Regexp{
	plain:  regexp.MustCompile("\\A[a-z]"),
	cased:  regexp.MustCompile("\\A[a-zA-Z]['`^]?"),
	abjad:  regexp.MustCompile(`\A[bdfghj-np-tw-z']`),
	syllab: regexp.MustCompile(`\A(?:[kstnhmyrwgzdbp][aiueo]|[aiueon])`),
}

// capitals is what capital letters are found by.
var capitals = regexp.MustCompile(`[A-Z]`)

// name returns a name.
func name(script int, words ...string) api.Name { return api.Name{Script: script, Words: words} }

// sameName reports whether two names are equal.
func sameName(a, b api.Name) bool { return a.Script == b.Script && slices.Equal(a.Words, b.Words) }

// rep returns a text n times.
func rep(text string, n int) string { return strings.Repeat(text, n) }

// shortened returns the beginning of a text, for messages.
func shortened(text string) string {
	if len(text) > 90 {
		return strconv.Quote(text[:90]) + " and " + strconv.Itoa(len(text)-90) + " bytes more"
	}
	return strconv.Quote(text)
}

// pick returns an element of a list.
func pick[T any](r *rand.Rand, l []T) T { return l[r.IntN(len(l))] }

// chars returns the bytes of a text as texts.
func chars(text string) []string {
	var l []string
	for i := range len(text) {
		l = append(l, text[i:i+1])
	}
	return l
}

// products returns each text of one list with each of another list behind it.
func products(a, b []string) []string {
	var l []string
	for _, x := range a {
		for _, y := range b {
			l = append(l, x+y)
		}
	}
	return l
}

// alphabet returns the letters of a script, one by one.
func alphabet(script int) []string {
	latin := chars("abcdefghijklmnopqrstuvwxyz")
	vowels := chars("aiueo")
	switch script {
	case plain:
		return latin
	case cased:
		both := slices.Concat(latin, chars("ABCDEFGHIJKLMNOPQRSTUVWXYZ"))
		return products(both, []string{"", "'", "`", "^"})
	case abjad:
		return strings.Fields("b d f g h j k l m n p q r s t w x y z '")
	case syllab:
		return slices.Concat(vowels, []string{"n"}, products(strings.Fields("k s t n h m y r w g z d b p"), vowels))
	}
	return nil
}

// firstLetter returns the letter with which a text begins, or the empty text.
func firstLetter(script int, text string) string {
	if !slices.Contains(all, script) {
		return ""
	}
	return forms[script].FindString(text)
}

// divided returns the letters of a word of a script, and none if it is no word of it.
func divided(script int, word string) []string {
	var l []string
	for rest := word; rest != ""; {
		letter := firstLetter(script, rest)
		if letter == "" || len(l) == 12 {
			return nil
		}
		l = append(l, letter)
		rest = rest[len(letter):]
	}
	return l
}

// folded returns a text with small letters instead of capital letters.
func folded(text string) string {
	return capitals.ReplaceAllStringFunc(text, func(c string) string { return string(c[0] + 'a' - 'A') })
}

// isValid says what Valid should.
func isValid(n api.Name) bool {
	for _, word := range n.Words {
		if divided(n.Script, word) == nil {
			return false
		}
	}
	return len(n.Words) >= 1 && len(n.Words) <= 6
}

// parsed is what Parse returns.
type parsed struct {
	name api.Name
	err  api.Errno
	at   int
}

// parse returns what Parse returns for a text.
func parse(text string) parsed {
	n, err, at := script.Parse(text)
	return parsed{n, err, at}
}

// same reports whether two results are equal.
func (p parsed) same(q parsed) bool {
	return sameName(p.name, q.name) && p.err == q.err && p.at == q.at
}

// failed returns the result with an error at an offset.
func failed(err api.Errno, at int) parsed { return parsed{api.Name{}, err, at} }

// wanted returns what Parse should return for a text, letter by letter.
func wanted(text string) parsed {
	if len(text) > 20000 {
		return failed(api.ErrLimit, -1)
	}
	which := slices.IndexFunc(prefixes, func(p string) bool { return p != "" && strings.HasPrefix(text, p) })
	if which < 0 {
		return failed(api.ErrSyntax, 0)
	}
	var words []string
	count := 0
	for at := len(prefixes[which]); at < len(text); {
		if text[at] == ' ' {
			count = 0
			at++
			continue
		}
		letter := firstLetter(which, text[at:])
		if letter == "" {
			return failed(api.ErrChar, at)
		}
		if count == 12 || count == 0 && len(words) == 6 {
			return failed(api.ErrLimit, at)
		}
		if count == 0 {
			words = append(words, "")
		}
		words[len(words)-1] += letter
		count++
		at += len(letter)
	}
	if len(words) == 0 {
		return failed(api.ErrEnd, len(text))
	}
	return parsed{name(which, words...), api.OK, 0}
}

// checkText fails a test if Parse of a text is not what it should be, or if it is a name that is not valid.
func checkText(t *testing.T, text string) {
	t.Helper()
	got := parse(text)
	if want := wanted(text); !got.same(want) {
		t.Fatalf("Parse of %s is %v, not %v", shortened(text), got, want)
	}
	if got.err == api.OK && !script.Valid(got.name) {
		t.Fatalf("Parse of %s is %v, which is not valid", shortened(text), got.name)
	}
}

// checkWord fails a test if the letters, the folded form, or the names of one word are not what they should be.
func checkWord(t *testing.T, kind int, word string) {
	t.Helper()
	letters, fold, want := divided(kind, word), "", api.ErrArg
	if letters != nil {
		fold, want = folded(word), api.OK
	}
	if got, err := script.Letters(kind, word); !slices.Equal(got, letters) || err != want {
		t.Fatalf("Letters of %s in %d is %q, %d", shortened(word), kind, got, err)
	}
	if got, err := script.Fold(kind, word); got != fold || err != want {
		t.Fatalf("Fold of %s in %d is %q, %d", shortened(word), kind, got, err)
	}
	if script.Valid(name(kind, word)) != (letters != nil) {
		t.Fatalf("Valid of the word %s in %d is %t", shortened(word), kind, letters == nil)
	}
}

// eachText calls a function for each text of at most so many of these bytes.
func eachText(bytes string, most int, f func(string)) {
	var extend func(text string, left int)
	extend = func(text string, left int) {
		f(text)
		for i := range len(bytes) {
			if left > 0 {
				extend(text+bytes[i:i+1], left-1)
			}
		}
	}
	extend("", most)
}

// eachChange calls a function for each text that comes from another one by changing, leaving out or putting in one byte.
func eachChange(text string, f func(string)) {
	for i := range len(text) + 1 {
		for c := range 256 {
			f(text[:i] + string([]byte{byte(c)}) + text[i:])
			if i < len(text) {
				f(text[:i] + string([]byte{byte(c)}) + text[i+1:])
			}
		}
		if i < len(text) {
			f(text[:i] + text[i+1:])
		}
	}
}

// randomWord returns a word of a script with n letters.
func randomWord(r *rand.Rand, kind, n int) string {
	l := alphabet(kind)
	for {
		word := ""
		for range n {
			word += pick(r, l)
		}
		// In a syllabic word n and a vowel may have become one letter.
		if len(divided(kind, word)) == n {
			return word
		}
	}
}

// randomName returns a valid name.
func randomName(r *rand.Rand) api.Name {
	n := name(pick(r, all))
	for range 1 + r.IntN(6) {
		n.Words = append(n.Words, randomWord(r, n.Script, 1+r.IntN(12)))
	}
	return n
}

// someNames are valid names of all scripts: short ones, of few and of many words, and random ones.
func someNames() []api.Name {
	r := rand.New(rand.NewPCG(9, 1))
	var l []api.Name
	for _, kind := range all {
		for _, letter := range alphabet(kind) {
			l = append(l, name(kind, letter), name(kind, letter, letter))
		}
		for n := 1; n <= 6; n++ {
			l = append(l, name(kind, slices.Repeat([]string{"n"}, n)...), name(kind, slices.Repeat([]string{rep("n", 12)}, n)...))
		}
	}
	for range 1500 {
		l = append(l, randomName(r))
	}
	return l
}

// randomText returns a text that begins like one of a name, and has words, blanks and wrong bytes in any order behind it.
func randomText(r *rand.Rand) string {
	kind := pick(r, all)
	text := prefixes[kind]
	wrong := r.IntN(3) == 0
	for range r.IntN(16) {
		switch n := r.IntN(8); {
		case n < 3:
			text += rep(" ", 1+r.IntN(2))
		case n < 7 || !wrong:
			text += randomWord(r, kind, pick(r, []int{1, 1, 2, 3, 6, 11, 12}))
		default:
			text += pick(r, chars(everyKind))
		}
	}
	return text
}

// someTexts are texts of all kinds, with errors and without.
func someTexts() []string {
	r := rand.New(rand.NewPCG(9, 2))
	var l []string
	for _, kind := range all {
		eachText("aAn' k-", 3, func(text string) { l = append(l, prefixes[kind]+text) })
	}
	for range 4000 {
		l = append(l, randomText(r))
	}
	for _, n := range someNames() {
		l = append(l, prefixes[n.Script]+strings.Join(n.Words, " "))
	}
	return l
}

// P9.1, P9.2: letters and folded forms that are known.
func TestLettersOfKnownWords(t *testing.T) {
	for _, test := range []struct {
		kind    int
		letters string // with blanks between them
		folded  string
	}{
		{syllab, "na ni wa", "naniwa"}, {syllab, "ki n", "kin"}, {cased, "E^ v a", "e^va"},
		{plain, "a", "a"}, {plain, "z", "z"}, {plain, "a n n a", "anna"}, {plain, "a b c d e f g h i j k l", "abcdefghijkl"}, {plain, "m n o p q r s t u v w x", "mnopqrstuvwx"}, {plain, "n a", "na"},
		{cased, "a", "a"}, {cased, "Z", "z"}, {cased, "A n n a", "anna"}, {cased, "a n n a", "anna"}, {cased, "a'", "a'"}, {cased, "Z^", "z^"}, {cased, "O` o' O^", "o`o'o^"}, {cased, "M c D o n a l d", "mcdonald"}, {cased, "A' A` A^ A", "a'a`a^a"},
		{cased, "A' B` C^ D' E` F^ G' H` I^ J' K` L^", "a'b`c^d'e`f^g'h`i^j'k`l^"}, {cased, "M N O P Q R S T U V W X", "mnopqrstuvwx"}, {cased, "Y Z", "yz"},
		{abjad, "'", "'"}, {abjad, "' ' '", "'''"}, {abjad, "' b d", "'bd"}, {abjad, "b ' d '", "b'd'"}, {abjad, "b d f g h j k l m n p q", "bdfghjklmnpq"}, {abjad, "r s t w x y z '", "rstwxyz'"},
		{syllab, "a", "a"}, {syllab, "n", "n"}, {syllab, "na", "na"}, {syllab, "a na", "ana"}, {syllab, "a n", "an"}, {syllab, "n n", "nn"}, {syllab, "n na", "nna"}, {syllab, "n n na", "nnna"}, {syllab, "ki n na", "kinna"}, {syllab, "ki n ka", "kinka"}, {syllab, "ni", "ni"}, {syllab, "n ka n", "nkan"}, {syllab, "na a", "naa"}, {syllab, "a i u e o", "aiueo"}, {syllab, "ka a", "kaa"}, {syllab, "yu we", "yuwe"}, {syllab, "n yo", "nyo"},
		{syllab, "ka ki ku ke ko sa si su se so ta ti", "kakikukekosasisusesotati"}, {syllab, "n n n n n n n n n n n n", "nnnnnnnnnnnn"}, {syllab, "n n n n n n n n n n n na", "nnnnnnnnnnnna"}, {syllab, "na na na na na na na na na na na n", rep("na", 11) + "n"},
	} {
		letters := strings.Fields(test.letters)
		word := strings.Join(letters, "")
		if got, err := script.Letters(test.kind, word); !slices.Equal(got, letters) || err != api.OK {
			t.Errorf("Letters of %q in %d is %q, %d", word, test.kind, got, err)
		}
		if got, err := script.Fold(test.kind, word); got != test.folded || err != api.OK {
			t.Errorf("Fold of %q in %d is %q, %d", word, test.kind, got, err)
		}
		if !script.Valid(name(test.kind, word)) {
			t.Errorf("the name %q in %d is not valid", word, test.kind)
		}
	}
}

// P9.1: what is no word has no letters, no folded form, and is in no valid name.
func TestTextsThatAreNoWords(t *testing.T) {
	tests := [][]string{
		plain:  {"Anna", "annA", "a'", "'a", "a^", "`", "a-b", "a1", "a_", rep("a", 13), "a" + rep("n", 12), rep("na", 7), rep("a", 12) + " ", rep("a", 12) + "A"},
		cased:  {"'a", "'", "^", "`A", "a''", "a'`", "A^^", "a'^b", "A``", "a'b''c", "a'-", "a\"", "a~", "a.", "a1", rep("a", 13), rep("A^", 13), rep("A^", 12) + "a", "a" + rep("A^", 12), rep("a", 12) + "''", rep("A'", 12) + "'"},
		abjad:  {"bad", "abd", "bda", "e", "i", "o", "u", "c", "v", "bcd", "bvd", "vw", "B", "bD", "b^", "`b", "b`", rep("b", 13), rep("'", 13), rep("b'", 6) + "b"},
		syllab: {"sta", "k", "s", "ak", "kak", "nak", "nk", "kk", "kka", "tsu", "ky", "kya", "la", "fu", "ji", "ca", "va", "xa", "qa", "al", "Na", "nA", "KA", "ka'", "n'a", "'a", "kin'", rep("na", 13), rep("n", 13), rep("a", 13), rep("n", 12) + "ka", rep("ka", 12) + "n", rep("n", 12) + "k"},
	}
	for _, kind := range all {
		for _, word := range slices.Concat(tests[kind], []string{"", " ", "  ", "n ", " n", "n n", "\t", "n\t", "n\n", "\n", "\x00", "n\x00", "\x7f", "n\x80", "\x80", "\xff", "n\xff", "\u00e4", "n\u0301", "\u212a", "\u0130", "\uff4e", "n\u00a0n", "n:", "plain:n", "@", "[", "`n", "{", "/", "0", "9", "n7"}) {
			if l, err := script.Letters(kind, word); len(l) != 0 || err != api.ErrArg {
				t.Errorf("Letters of %q in %d is %q, %d", word, kind, l, err)
			}
			if s, err := script.Fold(kind, word); s != "" || err != api.ErrArg {
				t.Errorf("Fold of %q in %d is %q, %d", word, kind, s, err)
			}
			if script.Valid(name(kind, word)) || script.Valid(name(kind, word, "n")) || script.Valid(name(kind, "n", "n", word)) || script.Valid(name(kind, "n", "n", "n", "n", "n", word)) {
				t.Errorf("a name with %q in %d is valid", word, kind)
			}
		}
	}
	for _, kind := range noScripts {
		for _, word := range []string{"", "a", "n", "na", "'", "A", " ", "plain", rep("a", 13)} {
			checkWord(t, kind, word)
			if script.Valid(name(kind, word, word)) {
				t.Errorf("a name in the script %d is valid", kind)
			}
		}
	}
}

// P9.1, P9.2: each letter of each script is a word of one letter, and no other text of one or two bytes is.
func TestEachLetterOfEachScript(t *testing.T) {
	var texts []string
	for b := range 256 {
		texts = append(texts, string([]byte{byte(b)}))
	}
	texts = slices.Concat(texts, products(texts, texts))
	for i, n := range []int{26, 208, 20, 76} {
		kind := all[i]
		letters := map[string]bool{}
		for _, letter := range alphabet(kind) {
			letters[letter] = true
		}
		if len(letters) != n {
			t.Fatalf("the test has %d letters of the script %d", len(letters), kind)
		}
		for _, text := range texts {
			l, err := script.Letters(kind, text)
			if letters[text] != (len(l) == 1) || letters[text] && (l[0] != text || err != api.OK) {
				t.Fatalf("Letters of %q in %d is %q, %d", text, kind, l, err)
			}
			checkWord(t, kind, text)
		}
	}
}

// P9.1, P9.2: all short texts of bytes of each kind.
func TestLettersOfShortTexts(t *testing.T) {
	for _, kind := range slices.Concat(all, []int{0, 5}) {
		eachText(everyKind, 3, func(text string) { checkWord(t, kind, text) })
		eachText("a'^A", 6, func(text string) { checkWord(t, kind, text) })
		eachText(syllables, 5, func(text string) { checkWord(t, kind, text) })
	}
}

// P9.1, P9.2: words of 1 to 15 letters, of which those of more than 12 are no words, and words with one byte changed.
func TestLettersOfLongTexts(t *testing.T) {
	r := rand.New(rand.NewPCG(9, 3))
	for _, kind := range all {
		for i := range 1500 {
			n := 1 + i%15
			var letters []string
			for len(letters) < n {
				letter := pick(r, alphabet(kind))
				// After n a vowel would not stay a letter of its own.
				if len(letters) == 0 || letters[len(letters)-1] != "n" || !strings.Contains("aiueo", letter) || kind != syllab {
					letters = append(letters, letter)
				}
			}
			word := strings.Join(letters, "")
			got, err := script.Letters(kind, word)
			if n <= 12 && (!slices.Equal(got, letters) || err != api.OK) || n > 12 && (len(got) != 0 || err != api.ErrArg) {
				t.Fatalf("Letters of %q in %d is %q, %d", word, kind, got, err)
			}
			checkWord(t, kind, word)
			for _, other := range all {
				checkWord(t, other, word)
			}
			at := r.IntN(len(word))
			checkWord(t, kind, word[:at]+pick(r, chars(everyKind))+word[at+1:])
			checkWord(t, kind, word[:at]+pick(r, chars(everyKind))+word[at:])
		}
	}
}

// P9.2: letters, joined, are the word, and each is a word with one letter.
func TestLettersJoinedAreTheWord(t *testing.T) {
	for _, n := range someNames() {
		for _, word := range n.Words {
			letters, err := script.Letters(n.Script, word)
			if strings.Join(letters, "") != word || err != api.OK {
				t.Fatalf("Letters of %q in %d is %q, %d", word, n.Script, letters, err)
			}
			for _, letter := range letters {
				if l, err := script.Letters(n.Script, letter); !slices.Equal(l, []string{letter}) || err != api.OK {
					t.Fatalf("Letters of the letter %q in %d is %q, %d", letter, n.Script, l, err)
				}
			}
		}
	}
}

// P9.3: the letters of joined words are those of both, unless there are more than 12, or n and a vowel meet.
func TestLettersOfJoinedWords(t *testing.T) {
	for _, test := range []struct {
		kind        int
		left, right string
		letters     string // with blanks between them, none if the joined text is no word
	}{
		{plain, "an", "na", "a n n a"}, {plain, "n", "a", "n a"}, {plain, rep("a", 6), rep("b", 6), "a a a a a a b b b b b b"}, {plain, rep("a", 6), rep("b", 7), ""}, {plain, rep("a", 12), "b", ""}, {plain, "b", rep("a", 12), ""},
		{cased, "A", "n^na", "A n^ n a"}, {cased, "n", "A", "n A"}, {cased, rep("A'", 11), "n`", rep("A' ", 11) + "n`"}, {cased, rep("A'", 11), "n`a", ""},
		{abjad, "b", "'", "b '"}, {abjad, "'", "'", "' '"}, {abjad, rep("'", 11), "b", rep("' ", 11) + "b"}, {abjad, rep("'", 12), "b", ""},
		{syllab, "ki", "n", "ki n"}, {syllab, "n", "na", "n na"}, {syllab, "n", "ka", "n ka"}, {syllab, "na", "a", "na a"}, {syllab, "ka", "na", "ka na"}, {syllab, rep("na", 6), rep("n", 6), "na na na na na na n n n n n n"}, {syllab, rep("na", 6), rep("n", 7), ""},
		{syllab, "n", "a", "na"}, {syllab, "kin", "ika", "ki ni ka"}, {syllab, "n", "o", "no"}, {syllab, rep("ka", 11) + "n", "a", rep("ka ", 11) + "na"}, {syllab, rep("ka", 11) + "n", "ka", ""}, {syllab, rep("ka", 6) + "n", "e" + rep("ka", 5), rep("ka ", 6) + "ne" + rep(" ka", 5)}, {syllab, rep("ka", 6) + "n", "e" + rep("ka", 6), ""},
	} {
		want := api.OK
		if test.letters == "" {
			want = api.ErrArg
		}
		if l, err := script.Letters(test.kind, test.left+test.right); !slices.Equal(l, strings.Fields(test.letters)) || err != want {
			t.Errorf("Letters of %q and %q in %d is %q, %d", test.left, test.right, test.kind, l, err)
		}
	}
	r := rand.New(rand.NewPCG(9, 4))
	for i := range 6000 {
		kind := all[i%4]
		a, b := randomWord(r, kind, 1+r.IntN(8)), randomWord(r, kind, 1+r.IntN(8))
		left, _ := script.Letters(kind, a)
		right, _ := script.Letters(kind, b)
		meet := kind == syllab && left[len(left)-1] == "n" && strings.Contains("aiueo", right[0])
		joined, err := script.Letters(kind, a+b)
		switch both := slices.Concat(left, right); {
		case meet && len(both) <= 13:
			both = slices.Concat(left[:len(left)-1], []string{"n" + right[0]}, right[1:])
			if !slices.Equal(joined, both) || err != api.OK {
				t.Fatalf("Letters of %q and %q in %d is %q, %d", a, b, kind, joined, err)
			}
		case len(both) > 12:
			if len(joined) != 0 || err != api.ErrArg {
				t.Fatalf("Letters of %q and %q in %d is %q, %d", a, b, kind, joined, err)
			}
		case !slices.Equal(joined, both) || err != api.OK:
			t.Fatalf("Letters of %q and %q in %d is %q, %d", a, b, kind, joined, err)
		}
	}
}

// P9.4: folded forms have the folded letters, stay as they are, and are the words where there are no capital letters.
func TestFoldedWords(t *testing.T) {
	for _, n := range someNames() {
		for _, word := range n.Words {
			fold, err := script.Fold(n.Script, word)
			if fold != folded(word) || err != api.OK || n.Script != cased && fold != word {
				t.Fatalf("Fold of %q in %d is %q, %d", word, n.Script, fold, err)
			}
			if again, err := script.Fold(n.Script, fold); again != fold || err != api.OK {
				t.Fatalf("Fold of %q in %d, which is folded, is %q, %d", fold, n.Script, again, err)
			}
			letters, _ := script.Letters(n.Script, word)
			var small []string
			for _, letter := range letters {
				s, _ := script.Fold(n.Script, letter)
				small = append(small, s)
			}
			if l, err := script.Letters(n.Script, fold); !slices.Equal(l, small) || err != api.OK {
				t.Fatalf("Letters of %q in %d are %q, %d, not %q", fold, n.Script, l, err, small)
			}
		}
	}
}

// P9.1: names of 0 to 8 words, and names that are not valid.
func TestValidNames(t *testing.T) {
	for _, kind := range all {
		for n := range 9 {
			words := slices.Repeat([]string{"n"}, n)
			if script.Valid(name(kind, words...)) != (n >= 1 && n <= 6) {
				t.Errorf("Valid of a name of %d words in %d is not right", n, kind)
			}
			for i := range words {
				wrong := slices.Clone(words)
				wrong[i] = pick(rand.New(rand.NewPCG(9, uint64(i))), []string{"", "'v", "nn ", rep("n", 13)})
				if script.Valid(name(kind, wrong...)) {
					t.Errorf("the name of the words %q in %d is valid", wrong, kind)
				}
			}
		}
	}
	for _, n := range []api.Name{{}, {Script: plain}, {Script: syllab, Words: []string{}}, {Words: []string{"a"}}, name(5, "a"), name(-1, "a"), name(plain, ""), name(plain, "a", ""), name(plain, "a b"), name(plain, "plain:a"), name(plain, "a", " "), name(plain, "E^va"), name(abjad, "anna"), name(syllab, "anna", "sta"), name(math.MaxInt, "a"), name(math.MinInt, "a")} {
		if script.Valid(n) {
			t.Errorf("%v is valid", n)
		}
		if text, err := script.Text(n); text != "" || err != api.ErrArg {
			t.Errorf("Text of %v is %q, %d", n, text, err)
		}
	}
	r := rand.New(rand.NewPCG(9, 5))
	for range 4000 {
		n := randomName(r)
		n.Script = pick(r, slices.Concat(all, []int{n.Script, n.Script, 0, 5}))
		if r.IntN(3) == 0 {
			n.Words = append(n.Words, pick(r, []string{"n", "", "a b", "A", "'", "k", rep("n", 13)}))
		}
		if r.IntN(4) == 0 {
			n.Words = slices.Concat(n.Words, n.Words)
		}
		want := isValid(n)
		if script.Valid(n) != want {
			t.Fatalf("Valid of %v is %t", n, !want)
		}
		if text, err := script.Text(n); (err == api.OK) != want || !want && (text != "" || err != api.ErrArg) {
			t.Fatalf("Text of %v is %q, %d", n, text, err)
		}
	}
}

// P9.5: names are parsed from their texts, which differ if the names do.
func TestNamesOfTexts(t *testing.T) {
	for _, test := range []struct {
		text string
		name api.Name
	}{
		{"plain:anna maria", name(plain, "anna", "maria")}, {"plain:a", name(plain, "a")}, {"plain:a b c d e f", name(plain, "a", "b", "c", "d", "e", "f")}, {"plain:annamaria", name(plain, "annamaria")}, {"plain:" + rep("a", 12) + " b", name(plain, rep("a", 12), "b")},
		{"cased:E^va O'Z`", name(cased, "E^va", "O'Z`")}, {"cased:anna", name(cased, "anna")}, {"cased:Anna", name(cased, "Anna")}, {"cased:" + rep("A^", 12), name(cased, rep("A^", 12))}, {"abjad:'bd s", name(abjad, "'bd", "s")}, {"abjad:' '", name(abjad, "'", "'")}, {"syllab:ki n", name(syllab, "ki", "n")}, {"syllab:n a", name(syllab, "n", "a")}, {"syllab:na", name(syllab, "na")}, {"syllab:" + rep("na", 12) + " n", name(syllab, rep("na", 12), "n")}, {"abjad:n", name(abjad, "n")}, {"plain:plain", name(plain, "plain")},
	} {
		if text, err := script.Text(test.name); text != test.text || err != api.OK {
			t.Errorf("Text of %v is %q, %d", test.name, text, err)
		}
		if got := parse(test.text); !got.same(parsed{test.name, api.OK, 0}) {
			t.Errorf("Parse of %q is %v", test.text, got)
		}
	}
	texts := map[string]api.Name{}
	for _, n := range someNames() {
		text, err := script.Text(n)
		if want := prefixes[n.Script] + strings.Join(n.Words, " "); text != want || err != api.OK || !script.Valid(n) {
			t.Fatalf("Text of %v is %q, %d", n, text, err)
		}
		if got := parse(text); !got.same(parsed{n, api.OK, 0}) {
			t.Fatalf("Parse of %q is %v", text, got)
		}
		if other, ok := texts[text]; ok && !sameName(n, other) {
			t.Fatalf("%v and %v have the text %q", n, other, text)
		}
		texts[text] = n
	}
}

// P9.1: names of texts with blanks, and errors with their offsets; of several in one text, the first one counts.
func TestParseHasTheKnownResults(t *testing.T) {
	for _, test := range []struct {
		text string
		name api.Name
	}{
		{"cased: Anna  Maria ", name(cased, "Anna", "Maria")}, {"syllab:   kin", name(syllab, "kin")}, {"plain:a b c d e f  ", name(plain, "a", "b", "c", "d", "e", "f")}, {"plain:a", name(plain, "a")}, {"plain:a ", name(plain, "a")}, {"plain: a", name(plain, "a")}, {"abjad:  '   b", name(abjad, "'", "b")}, {"syllab:n  a", name(syllab, "n", "a")}, {"plain:    a    b    c    d    e    f    ", name(plain, "a", "b", "c", "d", "e", "f")},
	} {
		if got := parse(test.text); !got.same(parsed{test.name, api.OK, 0}) {
			t.Errorf("Parse of %q is %v", test.text, got)
		}
	}
	thirteen := rep("a", 13)
	for _, test := range []struct {
		text string
		err  api.Errno
		at   int
	}{
		{"abjad:bn a", api.ErrChar, 9}, {"plain: ", api.ErrEnd, 7}, {"plain:", api.ErrEnd, 6}, {"cased:", api.ErrEnd, 6}, {"abjad:", api.ErrEnd, 6}, {"syllab:", api.ErrEnd, 7}, {"syllab:   ", api.ErrEnd, 10},
		{"plain:aB", api.ErrChar, 7}, {"plain:a:b", api.ErrChar, 7}, {"plain::a", api.ErrChar, 6}, {"plain:plain:a", api.ErrChar, 11}, {"plain:a\tb", api.ErrChar, 7}, {"plain:\ta", api.ErrChar, 6}, {"plain:a\n", api.ErrChar, 7}, {"plain:a b\x00", api.ErrChar, 9}, {"plain:\u00e4", api.ErrChar, 6}, {"plain:a\xff", api.ErrChar, 7}, {"plain:a \u00a0b", api.ErrChar, 8}, {"plain:-", api.ErrChar, 6}, {"plain: 1", api.ErrChar, 7}, {"plain:a b1 C", api.ErrChar, 9}, {"plain:E1 E2", api.ErrChar, 6},
		{"cased:'a", api.ErrChar, 6}, {"cased:a' 'b", api.ErrChar, 9}, {"cased:a''", api.ErrChar, 8}, {"cased:A^`b", api.ErrChar, 8}, {"cased:a '", api.ErrChar, 8}, {"cased:\u212a", api.ErrChar, 6}, {"abjad:ba", api.ErrChar, 7}, {"abjad:B", api.ErrChar, 6}, {"abjad:b`", api.ErrChar, 7},
		{"syllab:kista", api.ErrChar, 9}, {"syllab:k", api.ErrChar, 7}, {"syllab:ka k", api.ErrChar, 10}, {"syllab:kak", api.ErrChar, 9}, {"syllab:k a", api.ErrChar, 7}, {"syllab:kin'a", api.ErrChar, 10}, {"syllab:nk", api.ErrChar, 8}, {"syllab:kA", api.ErrChar, 7}, {"syllab:a l", api.ErrChar, 9},
		{"plain:a b c d e f g", api.ErrLimit, 18}, {"plain:a b c d e f ghi", api.ErrLimit, 18}, {"plain:a b c d e f   g", api.ErrLimit, 20}, {"plain: a b c d e f g", api.ErrLimit, 19}, {"plain:a b c d e f g h", api.ErrLimit, 18}, {"syllab:n n n n n n na", api.ErrLimit, 19}, {"cased:A' A' A' A' A' A' A'", api.ErrLimit, 24}, {"abjad:' ' ' ' ' ' '", api.ErrLimit, 18},
		{"plain:" + thirteen, api.ErrLimit, 18}, {"plain:" + thirteen + "a", api.ErrLimit, 18}, {"plain: " + thirteen, api.ErrLimit, 19}, {"plain:b " + thirteen, api.ErrLimit, 20}, {"plain:b c d e f " + thirteen, api.ErrLimit, 28}, {"syllab:" + rep("na", 13), api.ErrLimit, 31}, {"syllab:" + rep("n", 13), api.ErrLimit, 19}, {"syllab:" + rep("n", 12) + "ka", api.ErrLimit, 19}, {"cased:" + rep("A^", 13), api.ErrLimit, 30}, {"cased:" + rep("a", 12) + "b'", api.ErrLimit, 18}, {"abjad:" + rep("'", 13), api.ErrLimit, 18},
		{"plain:a b c d e f 1", api.ErrChar, 18}, {"plain:a b c d e f g1", api.ErrLimit, 18}, {"plain:a b c d e f1 g", api.ErrChar, 17}, {"plain:1 a b c d e f g", api.ErrChar, 6}, {"syllab:n n n n n n k", api.ErrChar, 19},
		{"plain:" + rep("a", 12) + "1", api.ErrChar, 18}, {"plain:" + thirteen + "1", api.ErrLimit, 18}, {"plain:1" + thirteen, api.ErrChar, 6}, {"plain:a1 " + thirteen, api.ErrChar, 7}, {"cased:" + rep("a", 12) + "''", api.ErrChar, 19}, {"syllab:" + rep("n", 12) + "k", api.ErrChar, 19},
		{"plain:a b c d e " + thirteen + " g", api.ErrLimit, 28}, {"plain:a b c d e f " + thirteen, api.ErrLimit, 18}, {"plain:" + thirteen + " b c d e f g", api.ErrLimit, 18},
		{"", api.ErrSyntax, 0}, {" ", api.ErrSyntax, 0}, {":", api.ErrSyntax, 0}, {":a", api.ErrSyntax, 0}, {"plain", api.ErrSyntax, 0}, {"plai:a", api.ErrSyntax, 0}, {"plains:a", api.ErrSyntax, 0}, {"plain a", api.ErrSyntax, 0}, {"plain :a", api.ErrSyntax, 0}, {" plain:a", api.ErrSyntax, 0}, {"Plain:a", api.ErrSyntax, 0}, {"PLAIN:a", api.ErrSyntax, 0}, {"Cased:a", api.ErrSyntax, 0}, {"abjaD:b", api.ErrSyntax, 0}, {"SYLLAB:a", api.ErrSyntax, 0}, {"cased", api.ErrSyntax, 0}, {"abjad", api.ErrSyntax, 0}, {"syllab", api.ErrSyntax, 0}, {"syllab;a", api.ErrSyntax, 0}, {"latin:a", api.ErrSyntax, 0}, {"a:plain:a", api.ErrSyntax, 0}, {"anna maria", api.ErrSyntax, 0}, {"\xffplain:a", api.ErrSyntax, 0}, {"plain\x00:a", api.ErrSyntax, 0}, {"1:a", api.ErrSyntax, 0}, {"plaincased:a", api.ErrSyntax, 0}, {"syllabic:a", api.ErrSyntax, 0}, {"plain\uff1aa", api.ErrSyntax, 0}, {"Plain:1", api.ErrSyntax, 0}, {"x:" + thirteen, api.ErrSyntax, 0},
	} {
		if got := parse(test.text); !got.same(failed(test.err, test.at)) {
			t.Errorf("Parse of %q is %v", test.text, got)
		}
		checkText(t, test.text)
	}
}

// P9.1: texts of 20000 and of 20001 bytes.
func TestTheLimitOfAText(t *testing.T) {
	for _, test := range []struct {
		text string
		want parsed
	}{
		{"plain:" + rep(" ", 19993) + "a", parsed{name(plain, "a"), api.OK, 0}}, {"plain:a" + rep(" ", 19993), parsed{name(plain, "a"), api.OK, 0}}, {"syllab:na" + rep(" ", 19989) + "na", parsed{name(syllab, "na", "na"), api.OK, 0}}, {"cased:" + rep(" ", 19992) + "A'", parsed{name(cased, "A'"), api.OK, 0}},
		{"abjad:" + rep(" ", 19993) + "a", failed(api.ErrChar, 19999)}, {"syllab:" + rep(" ", 19992) + "k", failed(api.ErrChar, 19999)}, {"plain:" + rep(" ", 19994), failed(api.ErrEnd, 20000)}, {rep("x", 20000), failed(api.ErrSyntax, 0)}, {rep(" ", 20000), failed(api.ErrSyntax, 0)}, {"plain:" + rep("a", 19994), failed(api.ErrLimit, 18)}, {"plain:a b c d e f" + rep(" ", 19982) + "g", failed(api.ErrLimit, 19999)}, {"plain:" + rep("!", 19994), failed(api.ErrChar, 6)},
		{"plain:" + rep(" ", 19994) + "a", failed(api.ErrLimit, -1)}, {"plain:a" + rep(" ", 19994), failed(api.ErrLimit, -1)}, {"abjad:" + rep(" ", 19994) + "a", failed(api.ErrLimit, -1)}, {"plain:" + rep(" ", 19995), failed(api.ErrLimit, -1)}, {rep("x", 20001), failed(api.ErrLimit, -1)}, {rep(" ", 20001), failed(api.ErrLimit, -1)}, {"plain:" + rep("a", 19995), failed(api.ErrLimit, -1)}, {"plain:" + rep("!", 19995), failed(api.ErrLimit, -1)}, {rep("plain:a ", 3000), failed(api.ErrLimit, -1)},
	} {
		if got := parse(test.text); !got.same(test.want) {
			t.Errorf("Parse of %s is %v", shortened(test.text), got)
		}
	}
}

// P9.1, P9.5: short texts of bytes of each kind, random texts, and texts of names with one byte changed, left out or put in.
func TestTextsThatAreParsed(t *testing.T) {
	for _, text := range someTexts() {
		checkText(t, text)
	}
	for _, kind := range all {
		eachText(everyKind, 3, func(text string) { checkText(t, prefixes[kind]+text) })
		eachText(syllables, 4, func(text string) { checkText(t, prefixes[kind]+text) })
	}
	for _, text := range []string{"plain:a bc", "cased:A' b", "abjad:' b", "syllab:na n k", "plain:a b c d e f", "syllab:" + rep("na", 11) + "n", "abjad:" + rep("b", 12)} {
		eachChange(text, func(text string) { checkText(t, text) })
	}
	eachText("pl:a ", 5, func(text string) { checkText(t, text) })
}

// P9.6: further blanks where blanks may be make no difference, apart from offsets.
func TestFurtherBlanks(t *testing.T) {
	for _, text := range someTexts() {
		before := parse(text)
		colon := strings.Index(text, ":")
		for p := colon + 1; p <= len(text); p++ {
			if p > colon+1 && p < len(text) && text[p-1] != ' ' && text[p] != ' ' {
				continue
			}
			for _, n := range []int{1, 2, 7} {
				want := before
				if want.err != api.OK && want.at >= p {
					want.at += n
				}
				if got := parse(text[:p] + rep(" ", n) + text[p:]); !got.same(want) {
					t.Fatalf("Parse of %q with %d further blanks at %d is %v, not %v", text, n, p, got, want)
				}
			}
		}
	}
}

// P9.7: what is in front of an error has no error, unless there is no word in it.
func TestNoErrorBeforeTheFirstOne(t *testing.T) {
	for _, text := range someTexts() {
		got := parse(text)
		if got.err != api.ErrChar && got.err != api.ErrLimit {
			continue
		}
		before := parse(text[:got.at])
		if before.err != api.OK && before.err != api.ErrEnd {
			t.Fatalf("Parse of %q is %v, but of %q %v", text, got, text[:got.at], before)
		}
		if with := parse(text[:got.at] + rep(" ", 3)); with.err != before.err {
			t.Fatalf("Parse of %q and blanks is %v, not %v", text[:got.at], with, before)
		}
	}
}

// P9.8: words of one script that are words of another one.
func TestWordsOfOtherScripts(t *testing.T) {
	for _, n := range someNames() {
		for _, word := range n.Words {
			own, _ := script.Letters(n.Script, word)
			inCased, casedErr := script.Letters(cased, word)
			inPlain, plainErr := script.Letters(plain, word)
			wrong := false
			switch {
			case n.Script == plain:
				wrong = casedErr != api.OK || !slices.Equal(inCased, own)
			case n.Script == abjad && !strings.Contains(word, "'"):
				wrong = plainErr != api.OK || !slices.Equal(inPlain, own)
			case n.Script == abjad:
				wrong = plainErr != api.ErrArg
			case n.Script == syllab && len(word) <= 12:
				wrong = plainErr != api.OK || !slices.Equal(inPlain, chars(word))
			case n.Script == syllab:
				wrong = plainErr != api.ErrArg
			}
			if wrong {
				t.Fatalf("%q of the script %d is %q, %d in %d, and %q, %d in %d", word, n.Script, inCased, casedErr, cased, inPlain, plainErr, plain)
			}
		}
	}
	for _, word := range []string{rep("na", 6), rep("n", 12), rep("na", 5) + "nn"} {
		if l, err := script.Letters(plain, word); !slices.Equal(l, chars(word)) || err != api.OK {
			t.Errorf("Letters of %q in %d is %q, %d", word, plain, l, err)
		}
	}
	if l, err := script.Letters(plain, rep("na", 6)+"n"); len(l) != 0 || err != api.ErrArg {
		t.Errorf("Letters of a word of 13 bytes in %d is %q, %d", plain, l, err)
	}
}

// P1: all functions end for long arguments.
func TestLongArguments(t *testing.T) {
	for _, text := range []string{rep("a", 1000000), rep("na", 500000), rep("A^", 500000), rep("'", 1000000), rep(" ", 1000000), rep("a ", 500000), rep("\xff", 1000000), "plain:" + rep("a ", 500000)} {
		for _, kind := range slices.Concat(all, noScripts) {
			checkWord(t, kind, text)
			if script.Valid(name(kind, "n", text)) {
				t.Errorf("a name with a long word in %d is valid", kind)
			}
			if s, err := script.Text(name(kind, text)); s != "" || err != api.ErrArg {
				t.Errorf("Text of a long word in %d has %d bytes and the error %d", kind, len(s), err)
			}
		}
		checkText(t, text)
	}
	for _, kind := range slices.Concat(all, noScripts) {
		if n := name(kind, slices.Repeat([]string{"n"}, 1000000)...); script.Valid(n) {
			t.Errorf("a name of 1000000 words in %d is valid", kind)
		}
	}
}

// P3: equal arguments yield equal results, whatever was asked for before, and whatever is done to the results.
func TestEqualArgumentsYieldEqualResults(t *testing.T) {
	texts := []string{"plain:anna maria", "cased:E^va O'Z` Anna", "abjad:'bd s bn", "syllab:naniwa kin n"}
	names := []api.Name{name(plain, "anna", "maria"), name(cased, "E^va", "O'Z`", "Anna"), name(abjad, "'bd", "s", "bn"), name(syllab, "naniwa", "kin", "n")}
	letters := []string{"a n n a", "E^ v a", "' b d", "na ni wa"}
	for i := range 400 {
		n, k := names[i%4], i%4
		if !script.Valid(n) || script.Valid(name(n.Script, "!")) {
			t.Fatalf("Valid is now false for %v", n)
		}
		l, err := script.Letters(n.Script, n.Words[0])
		if !slices.Equal(l, strings.Fields(letters[k])) || err != api.OK {
			t.Fatalf("Letters is now %q, %d", l, err)
		}
		if s, err := script.Fold(n.Script, n.Words[0]); s != folded(n.Words[0]) || err != api.OK {
			t.Fatalf("Fold is now %q, %d", s, err)
		}
		if s, err := script.Text(n); s != texts[k] || err != api.OK {
			t.Fatalf("Text is now %q, %d", s, err)
		}
		got := parse(texts[k])
		if !got.same(parsed{n, api.OK, 0}) {
			t.Fatalf("Parse is now %v", got)
		}
		if got := parse(texts[k] + " !"); !got.same(failed(api.ErrChar, len(texts[k])+1)) {
			t.Fatalf("Parse is now %v", got)
		}
		for _, list := range [][]string{l, l[:cap(l)], got.name.Words, got.name.Words[:cap(got.name.Words)]} {
			for j := range list {
				list[j] = "changed"
			}
		}
	}
}

// No call changes its arguments, nor what lies behind them in memory.
func TestArgumentsAreNotChanged(t *testing.T) {
	for _, words := range [][]string{{"Zo^e", "Anna", "Anna", "b"}, {"b", "a", " x", ""}, {"", "", "", ""}, {"n", "na", "n", "'"}, {"Ka", "N", "K", "ka"}} {
		for _, kind := range slices.Concat(all, noScripts) {
			behind := append(slices.Clone(words), "behind", "Behind", "")
			want := slices.Clone(behind)
			for n := range len(words) + 1 {
				script.Valid(name(kind, behind[:n]...))
				script.Text(name(kind, behind[:n]...))
			}
			for _, word := range behind {
				script.Letters(kind, word)
				script.Fold(kind, word)
			}
			if !slices.Equal(behind, want) {
				t.Fatalf("the words %q were changed to %q", want, behind)
			}
		}
	}
}
