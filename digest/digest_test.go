package digest

import (
	"math"
	"math/big"
	"slices"
	"strconv"
	"strings"
	"testing"
)

// samples are texts of many lengths: empty, short, of 8 and 16 bytes, with bytes 0 at the end, and no UTF-8.
func samples() []string {
	l := []string{"", "\x00", "\x00\x00", "a", "a\x00", "abcdefg", "abcdefgh", "abcdefg\x00", "abcdefgh\x00", "\xff\xfe\x80", "\u00e9\u4e16", "0123456789abcdef"}
	for n := range 40 {
		l = append(l, strings.Repeat("x", n), strings.Repeat("\xff", n), "y"+strings.Repeat("\x00", n))
	}
	return append(l, strings.Repeat("long ", 20000))
}

// model computes a digest with big numbers, as the chapter's words say it.
func model(text string) string {
	modulus := new(big.Int).Lsh(big.NewInt(1), 64)
	times := func(x *big.Int, factor string) {
		f, _ := new(big.Int).SetString(factor, 10)
		x.Mul(x, f).Mod(x, modulus)
	}
	state, _ := new(big.Int).SetString("2611923443488327891", 10)
	state.Xor(state, big.NewInt(int64(len(text))))
	filled := text + "\x00"
	for len(filled)%8 != 0 {
		filled += "\x00"
	}
	for ; filled != ""; filled = filled[8:] {
		state.Xor(state, new(big.Int).SetBytes([]byte(filled[:8])))
		times(state, "2862933555777941757")
		state.Xor(state, new(big.Int).Rsh(state, 32))
		times(state, "3935559000370003845")
		state.Xor(state, new(big.Int).Rsh(state, 29))
	}
	s := state.Text(16)
	return strings.Repeat("0", 16-len(s)) + s
}

// distinct reports two different texts with one digest.
func distinct(t *testing.T, texts []string) {
	t.Helper()
	of := map[string]string{}
	for _, text := range texts {
		d := Sum(text)
		if other, found := of[d]; found && other != text {
			t.Errorf("%q and %q have the digest %s", other, text, d)
		}
		of[d] = text
	}
}

// P1.1, A1.
func TestSumOfKnownTexts(t *testing.T) {
	for _, test := range []struct{ text, want string }{
		{"", "cb0d394518e68116"},
		{"a", "866045bed206b961"},
		{"\x00", "3390a8a8e081d1fd"},
		{"\x00\x00", "61a2049cd81edcb1"},
		{"abcdefg", "12e6e986a12d6ec6"},
		{"abcdefgh", "04137799f0e0ba5b"},
		{"abcdefg\x00", "5314eba682536fd3"},
		{"abcdefgh\x00", "a09dff3e32de27e4"},
		{"abcdefghijklmno", "0a413687c101d0c0"},
		{"abcdefghijklmnop", "45b6f69d5ca9c618"},
		{"abcdefghijklmnopq", "e5f341749b4d7d54"},
		{strings.Repeat("\xff", 8), "49cd487a08f9aee8"},
		{"\xff\xfe\x80", "93d1c60e5e228505"},
		{"\u00e9\u4e16", "6b621ac114a8ce4a"},
		{strings.Repeat("x", 1000), "7a4fabd4009ca73e"},
	} {
		if got := Sum(test.text); got != test.want {
			t.Errorf("Sum(%.20q) = %s, want %s", test.text, got, test.want)
		}
	}
}

// P1.1, A1.
func TestSumIsWhatTheWordsSay(t *testing.T) {
	for _, text := range samples() {
		if got, want := Sum(text), model(text); got != want {
			t.Errorf("Sum of %d bytes %.20q = %s, want %s", len(text), text, got, want)
		}
	}
}

// P1.1, A1.
func TestListIsTheSumOfTheJoinedText(t *testing.T) {
	ten := strings.Repeat("z", 10)
	for _, test := range []struct {
		l      []string
		joined string
	}{
		{nil, ""},
		{[]string{}, ""},
		{[]string{""}, "0:"},
		{[]string{"", ""}, "0:0:"},
		{[]string{"a", "bc"}, "1:a2:bc"},
		{[]string{"a2:bc"}, "5:a2:bc"},
		{[]string{ten, "", ten + ten}, "10:" + ten + "0:20:" + ten + ten},
		{[]string{strings.Repeat("q", 100)}, "100:" + strings.Repeat("q", 100)},
		{[]string{"\u00e9", "\x00"}, "2:\u00e91:\x00"},
		{[]string{"\xff\x80", "\xfe"}, "2:\xff\x801:\xfe"},
	} {
		if got := join(test.l); got != test.joined {
			t.Errorf("the joined text of %q is %q, want %q", test.l, got, test.joined)
		}
		if got, want := List(test.l), model(test.joined); got != want {
			t.Errorf("List(%q) = %s, want %s", test.l, got, want)
		}
	}
}

// P1.1, A2.
func TestChainIsTheTextAfterSoManyDigests(t *testing.T) {
	for _, text := range []string{"", "x", "abcdefgh", "\x00"} {
		want := text
		for n := range 1001 {
			if got := Chain(text, n); got != want {
				t.Fatalf("Chain(%q, %d) = %s, want %s", text, n, got, want)
			}
			want = Sum(want)
		}
	}
	if got := Chain("x", 2); got != "015a859fa6e4fe3f" {
		t.Error(got)
	}
}

// P1.1, A2.
func TestChainWithNumbersOutOfItsLimits(t *testing.T) {
	for _, n := range []int{0, -1, -1000, math.MinInt} {
		if got := Chain("x", n); got != "x" {
			t.Errorf("Chain(x, %d) = %s", n, got)
		}
	}
	for _, n := range []int{1000, 1001, 2000, math.MaxInt} {
		if got := Chain("x", n); got != "e06b2a769d21faf5" {
			t.Errorf("Chain(x, %d) = %s", n, got)
		}
	}
	if got := Chain("x", 999); got != "8de63cb155eae1fb" {
		t.Error(got)
	}
}

// P1.1, A3.
func TestIsTellsDigestsFromOtherTexts(t *testing.T) {
	for _, test := range []struct {
		text string
		want bool
	}{
		{"0123456789abcdef", true},
		{"0000000000000000", true},
		{"ffffffffffffffff", true},
		{"", false},
		{"0", false},
		{"0123456789abcde", false},
		{"0123456789abcdef0", false},
		{"0123456789abcdef0123456789abcdef", false},
		{"0123456789abcdeF", false},
		{"0123456789ABCDEF", false},
		{" 123456789abcdef", false},
		{"-123456789abcdef", false},
		{"0x23456789abcdef", false},
		{"0123456789abcde\n", false},
		{"0123456789abcde\x00", false},
		{strings.Repeat("\u00e9", 8), false},
		{strings.Repeat("\u00e9", 16), false},
	} {
		if got := Is(test.text); got != test.want {
			t.Errorf("Is(%q) = %t", test.text, got)
		}
	}
}

// P1.1, A3: every byte at every place.
func TestIsLooksAtEachByte(t *testing.T) {
	for at := range 16 {
		for c := range 256 {
			text := []byte("0123456789abcdef")
			text[at] = byte(c)
			want := '0' <= c && c <= '9' || 'a' <= c && c <= 'f'
			if got := Is(string(text)); got != want {
				t.Errorf("Is(%q) = %t", text, got)
			}
		}
	}
}

// P1.2: also the digests of small numbers, which have fewer digits without the zeros at the beginning.
func TestWhatIsReturnedIsADigest(t *testing.T) {
	check := func(of, got string) {
		if len(got) != 16 || strings.Trim(got, "0123456789abcdef") != "" || !Is(got) {
			t.Errorf("%s is %q", of, got)
		}
	}
	texts := samples()
	zeros := 0
	for n := range 1000 {
		texts = append(texts, strconv.Itoa(n))
	}
	for _, text := range texts {
		check("Sum", Sum(text))
		check("List", List([]string{text, text}))
		for _, n := range []int{1, 2, 17} {
			check("Chain", Chain(text, n))
		}
		if strings.HasPrefix(Sum(text), "00") {
			zeros++
		}
	}
	check("List of nothing", List(nil))
	check("the longest Chain", Chain("", math.MaxInt))
	if zeros == 0 {
		t.Error("no digest begins with 00")
	}
}

// P1.3: all texts of at most 2 bytes, and longer ones of few different bytes.
func TestShortTextsHaveDifferentDigests(t *testing.T) {
	texts := []string{""}
	for c := range 256 {
		texts = append(texts, string([]byte{byte(c)}))
		for d := range 256 {
			texts = append(texts, string([]byte{byte(c), byte(d)}))
		}
	}
	last := []string{""}
	for range 7 {
		var longer []string
		for _, text := range last {
			for _, c := range []string{"\x00", "\x01", "\x07", "\xff"} {
				longer = append(longer, text+c)
			}
		}
		texts = append(texts, longer...)
		last = longer
	}
	distinct(t, texts)
}

// P1.4.
func TestTextsThatDifferInOneBlockHaveDifferentDigests(t *testing.T) {
	for n := 1; n <= 40; n++ {
		base := []byte(strings.Repeat("\x00m\xff", 20)[:n])
		for from := 0; from < n; from += 8 {
			texts := []string{string(base)}
			for at := from; at < min(from+8, n); at++ {
				for c := range 256 {
					text := slices.Clone(base)
					text[at] = byte(c)
					texts = append(texts, string(text))
					for k := from; k < at; k++ {
						text[k] ^= byte(c + k)
					}
					texts = append(texts, string(text))
				}
			}
			distinct(t, texts)
		}
	}
}

// P1.5.
func TestTheChainOfAChainIsTheLongerChain(t *testing.T) {
	for _, text := range []string{"", "x", "0123456789abcdef", "abcdefg\x00"} {
		for _, m := range []int{0, 1, 2, 9, 499, 500, 999, 1000} {
			for _, n := range []int{0, 1, 2, 9, 499, 500, 999, 1000} {
				if m+n > 1000 {
					continue
				}
				if got, want := Chain(Chain(text, m), n), Chain(text, m+n); got != want {
					t.Errorf("%q, %d and %d: %s, want %s", text, m, n, got, want)
				}
			}
		}
	}
}

// lists returns all lists with joined texts of at most so many bytes, whose elements have few different bytes.
func lists(most int) [][]string {
	elements := []string{""}
	last := elements
	for range most - 2 {
		var longer []string
		for _, e := range last {
			for _, c := range []string{"\x00", "0", "1", ":"} {
				longer = append(longer, e+c)
			}
		}
		elements = append(elements, longer...)
		last = longer
	}
	var all [][]string
	var grow func(l []string, left int)
	grow = func(l []string, left int) {
		all = append(all, slices.Clone(l))
		for _, e := range elements {
			if len(e)+2 <= left {
				grow(append(l, e), left-len(e)-2)
			}
		}
	}
	grow(nil, most)
	return all
}

// P1.6: joined texts.
func TestDifferentListsHaveDifferentJoinedTexts(t *testing.T) {
	ten := "0123456789"
	l := append(lists(8),
		[]string{ten}, []string{ten, ""}, []string{"", ten}, []string{"10:" + ten}, []string{"0" + ten},
		[]string{"a", "bc"}, []string{"ab", "c"}, []string{"abc"}, []string{"a2:bc"}, []string{"1:a2:bc"}, []string{"1:a", "2:bc"},
		[]string{"\xff"}, []string{"\xfe"}, []string{"\ufffd"}, []string{"?"})
	of := map[string]int{}
	for i, x := range l {
		j, found := of[join(x)]
		if found {
			t.Errorf("%q and %q have the joined text %q", l[j], x, join(x))
		}
		of[join(x)] = i
	}
}

// P1.6: digests of lists with joined texts of at most 7 bytes.
func TestShortListsHaveDifferentDigests(t *testing.T) {
	l := lists(7)
	of := map[string]int{}
	for i, x := range l {
		j, found := of[List(x)]
		if found {
			t.Errorf("%q and %q have the digest %s", l[j], x, List(x))
		}
		of[List(x)] = i
	}
	if _, found := of[List([]string{"", "", ""})]; !found || len(l) < 1000 {
		t.Errorf("%d lists", len(l))
	}
}

// oneBlock reports whether two texts have one length and differ within one block at most.
func oneBlock(a, b string) bool {
	different := map[int]bool{}
	for i := range min(len(a), len(b)) {
		if a[i] != b[i] {
			different[i/8] = true
		}
	}
	return len(a) == len(b) && len(different) < 2
}

// P1.6: digests of lists whose joined texts differ only within one block, the last of two or the first.
func TestListsThatDifferInOneBlockHaveDifferentDigests(t *testing.T) {
	for _, family := range [][][]string{
		{{"abcdef", "123456"}, {"abcdeg", "123456"}, {"\x00bcdef", "123456"}, {"abc1:f", "123456"}, {"abcd", "", "123456"}, {"", "abcd", "123456"}, {"", "", "", "", "123456"}},
		{{"abcdef", "123456"}, {"abcdef", "123457"}, {"abcdef", "12345\x00"}, {"abcdef", "1234", ""}, {"abcdef", "", "1234"}, {"abcdef", "", "", "", ""}},
	} {
		of := map[string]int{}
		for i, x := range family {
			if !oneBlock(join(family[0]), join(x)) {
				t.Errorf("%q differs from %q in more than one block", x, family[0])
			}
			j, found := of[List(x)]
			if found {
				t.Errorf("%q and %q have the digest %s", family[j], x, List(x))
			}
			of[List(x)] = i
		}
	}
}

// P1: all functions end, also with long arguments and with what is no text.
func TestLongArguments(t *testing.T) {
	long := strings.Repeat("\xff\x00", 1<<20)
	many := make([]string, 1<<18)
	if !Is(Sum(long)) || !Is(List([]string{long, "", long})) || !Is(List(many)) || !Is(Chain(long, math.MaxInt)) || Is(long) {
		t.Error("no digest")
	}
}

// P3, and the rule that arguments are not modified.
func TestEqualArgumentsYieldEqualResults(t *testing.T) {
	for _, text := range samples() {
		same := string([]byte(text))
		if Sum(text) != Sum(same) || Is(text) != Is(same) || Chain(text, 3) != Chain(same, 3) {
			t.Errorf("%.20q", text)
		}
		l := []string{"first", text, ""}
		got := List(l)
		if !slices.Equal(l, []string{"first", same, ""}) {
			t.Errorf("List has modified %.20q", text)
		}
		if got != List(append(make([]string, 0, 9), "first", same, "")) {
			t.Errorf("List of %.20q", text)
		}
	}
	if List(nil) != List([]string{}) {
		t.Error("nil and empty")
	}
}
