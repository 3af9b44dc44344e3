package natural

import (
	"math"
	"math/big"
	"math/rand/v2"
	"slices"
	"strconv"
	"strings"
	"testing"

	"customhouse/api"
)

// bigOf returns the value of a natural number.
func bigOf(t *testing.T, s string) *big.Int {
	t.Helper()
	n, ok := new(big.Int).SetString(s, 10)
	if !ok {
		t.Fatalf("%q is no number", s)
	}
	return n
}

// powerOfTen returns the digits of a power of ten.
func powerOfTen(n int) string { return "1" + strings.Repeat("0", n) }

// nines returns the digits of one less than a power of ten.
func nines(n int) string { return strings.Repeat("9", n) }

// shown returns a text, or the begin of a long one.
func shown(s string) string {
	if len(s) > 400 {
		return strconv.Quote(s[:40]) + " and so on, " + strconv.Itoa(len(s)) + " bytes"
	}
	return strconv.Quote(s)
}

// random returns a natural number of so many digits. Long parts of it are the same digit, or any digits.
func random(r *rand.Rand, size int) string {
	digits := ""
	for len(digits) < size {
		length := 1 + r.IntN(14)
		switch r.IntN(4) {
		case 0:
			digits += strings.Repeat("0", length)
		case 1:
			digits += strings.Repeat("9", length)
		case 2:
			digits += strings.Repeat("0", length) + "1"
		default:
			for range length {
				digits += string(rune('0' + r.IntN(10)))
			}
		}
	}
	digits = digits[:size]
	if size > 1 && digits[0] == '0' {
		digits = string(rune('1'+r.IntN(9))) + digits[1:]
	}
	return digits
}

// samples are natural numbers of many lengths: the least ones, those around powers of ten and of two, and random ones. None has more than so many digits.
func samples(most int) []string {
	l := []string{"0", "1", "2", "3", "7", "12", "18", "97", "360"}
	for _, n := range []int{1, 2, 5, 6, 7, 8, 9, 10, 11, 12, 13, 17, 18, 19, 20, 24, 50, 120, 149, 150, 151, 299} {
		l = append(l, powerOfTen(n), powerOfTen(n-1)+"1", nines(n), nines(n)+"8")
	}
	for _, n := range []uint{20, 31, 32, 53, 62, 63, 64, 65, 128, 498, 996} {
		power := new(big.Int).Lsh(big.NewInt(1), n)
		l = append(l, new(big.Int).Sub(power, big.NewInt(1)).String(), power.String(), new(big.Int).Add(power, big.NewInt(1)).String())
	}
	r := rand.New(rand.NewPCG(4, 1))
	for range 40 {
		l = append(l, random(r, 1+r.IntN(most)))
	}
	l = append(l, nines(300), random(r, 300))
	return slices.DeleteFunc(l, func(s string) bool { return len(s) > most })
}

// triples calls a function with many triples of natural numbers of at most so many digits.
func triples(most int, check func(a, b, c string)) {
	r := rand.New(rand.NewPCG(4, 2))
	l := samples(most)
	for range 3000 {
		check(l[r.IntN(len(l))], l[r.IntN(len(l))], l[r.IntN(len(l))])
	}
	for range 2000 {
		check(random(r, 1+r.IntN(most)), random(r, 1+r.IntN(most)), random(r, 1+r.IntN(most)))
	}
}

// unnatural are texts that are no natural numbers.
func unnatural() []string {
	return []string{"", "00", "01", "007", "0123456789", strings.Repeat("0", 6), strings.Repeat("0", 300), "0" + nines(299),
		"-", "+", "-0", "+0", "-1", "+1", "--1", "1-", "-" + nines(299),
		" ", " 1", "1 ", "1 2", "\t1", "1\n", "1\r\n", "\x001", "1\x00",
		"a", "1a", "a1", "1a1", "0x10", "0b1", "0o7", "1e3", "1E3", "1.0", "1.", ".1", "1,000", "1_000", "1/2", "inf", "NaN",
		"\u0661", "1\u0662", "\uff11", "\u00b2", "1\u0660", "\ufeff1", "\xb1", "1\xff", "\xff", "\xf0\x9d\x9f", "/", ":", "1/", "1:",
		nines(301), powerOfTen(300), "1" + nines(300), nines(302), nines(5000), strings.Repeat("0", 301), strings.Repeat("x", 300), nines(299) + "x", nines(150) + " " + nines(149)}
}

// P4.1, D1.
func TestIs(t *testing.T) {
	for _, s := range []string{"0", "1", "9", "10", "12", "19", "90", "100", "1000000", "999999", "9007199254740993", "18446744073709551616", powerOfTen(298), powerOfTen(299), nines(299), nines(300), "1" + nines(299)} {
		if !Is(s) {
			t.Errorf("Is(%s) is false", shown(s))
		}
	}
	for _, s := range unnatural() {
		if Is(s) {
			t.Errorf("Is(%s) is true", shown(s))
		}
	}
}

// P4.1, D1: each byte, at each place of a text, and each length.
func TestIsOfAllBytesAndLengths(t *testing.T) {
	for c := range 256 {
		digit := c >= '0' && c <= '9'
		for _, n := range []int{1, 2, 6, 7, 299, 300} {
			for _, i := range []int{0, 1, 5, n / 2, n - 1} {
				text := []byte(strings.Repeat("5", n))
				text[min(i, n-1)] = byte(c)
				want := digit && (c != '0' || n == 1 || min(i, n-1) > 0)
				if got := Is(string(text)); got != want {
					t.Errorf("Is(%q) is %v", text, got)
				}
			}
		}
	}
	for n := range 700 {
		if got := Is(strings.Repeat("7", n)); got != (n >= 1 && n <= 300) {
			t.Errorf("Is of %d digits is %v", n, got)
		}
	}
}

// ints are numbers of the type int: small ones, those around powers of ten and of two, the least and the greatest ones, and random ones.
func ints() []int {
	l := []int{math.MaxInt, math.MaxInt - 1, math.MinInt, math.MinInt + 1}
	for n := -1100; n <= 1100; n++ {
		l = append(l, n)
	}
	for power := 10; power <= math.MaxInt/10; power *= 10 {
		l = append(l, power-1, power, power+1, -power)
	}
	for shift := range 63 {
		l = append(l, 1<<shift-1, 1<<shift, 1<<shift+1, -1<<shift)
	}
	r := rand.New(rand.NewPCG(4, 3))
	for range 2000 {
		l = append(l, int(r.Uint64()>>r.IntN(64)))
	}
	return l
}

// P4.1, D1 and P4.2: Of and Int are inverse to each other.
func TestOfAndInt(t *testing.T) {
	for _, n := range ints() {
		want := ""
		if n >= 0 {
			want = big.NewInt(int64(n)).String()
		}
		s := Of(n)
		if s != want {
			t.Errorf("Of(%d) is %q", n, s)
		}
		if n < 0 {
			continue
		}
		if got, err := Int(s); got != n || err != api.OK {
			t.Errorf("Int(%q) is %d, %d", s, got, err)
		}
	}
}

// P4.1, D1 and P4.2: the greatest int and one more, and other great numbers.
func TestIntOfGreatNumbers(t *testing.T) {
	for _, test := range []struct {
		s    string
		want int
		err  api.Errno
	}{
		{"9223372036854775806", math.MaxInt - 1, api.OK},
		{"9223372036854775807", math.MaxInt, api.OK},
		{"9223372036854775808", 0, api.ErrRange},
		{"9223372036854775809", 0, api.ErrRange},
		{"9223372036854775810", 0, api.ErrRange},
		{"9999999999999999999", 0, api.ErrRange},
		{"10000000000000000000", 0, api.ErrRange},
		{"18446744073709551615", 0, api.ErrRange},
		{"18446744073709551616", 0, api.ErrRange},
		{"18446744073709551617", 0, api.ErrRange},
		{"92233720368547758070", 0, api.ErrRange},
		{powerOfTen(299), 0, api.ErrRange},
		{nines(300), 0, api.ErrRange},
	} {
		if n, err := Int(test.s); n != test.want || err != test.err {
			t.Errorf("Int(%s) is %d, %d", shown(test.s), n, err)
		}
	}
	for _, s := range samples(300) {
		value := bigOf(t, s)
		want, wantErr := 0, api.ErrRange
		if value.IsInt64() {
			want, wantErr = int(value.Int64()), api.OK
		}
		n, err := Int(s)
		if n != want || err != wantErr {
			t.Errorf("Int(%s) is %d, %d", s, n, err)
		}
		if err == api.OK && Of(n) != s {
			t.Errorf("Of(%d) is %q", n, Of(n))
		}
	}
}

// refused reports where functions accept two texts of which one is no natural number.
func refused(t *testing.T, a, b string) {
	t.Helper()
	if n, err := Compare(a, b); n != 0 || err != api.ErrArg {
		t.Errorf("Compare(%s, %s) is %d, %d", shown(a), shown(b), n, err)
	}
	if q, r, err := Div(a, b); q != "" || r != "" || err != api.ErrArg {
		t.Errorf("Div(%s, %s) is %s, %s, %d", shown(a), shown(b), shown(q), shown(r), err)
	}
	for _, o := range operations() {
		if s, err := o.call(a, b); s != "" || err != api.ErrArg {
			t.Errorf("%s(%s, %s) is %s, %d", o.name, shown(a), shown(b), shown(s), err)
		}
	}
}

// P4.1 with D1 to D4, and P1: what is no natural number has the error ErrArg, before all other errors, and nothing comes with it.
func TestTextsThatAreNoNaturalNumbers(t *testing.T) {
	for _, s := range unnatural() {
		if n, err := Int(s); n != 0 || err != api.ErrArg {
			t.Errorf("Int(%s) is %d, %d", shown(s), n, err)
		}
	}
	for _, s := range unnatural() {
		// Other errors would apply: a division by 0, a difference below 0, and too many digits.
		for _, other := range append(unnatural(), "0", "1", "5", nines(6), nines(300)) {
			refused(t, s, other)
			refused(t, other, s)
		}
	}
}

// operation is a function that returns a text, with what it computes, if there is any.
type operation struct {
	name    string
	call    func(a, b string) (string, api.Errno)
	compute func(a, b *big.Int) *big.Int
}

func operations() []operation {
	return []operation{
		{"Add", Add, func(a, b *big.Int) *big.Int { return new(big.Int).Add(a, b) }},
		{"Sub", Sub, func(a, b *big.Int) *big.Int { return new(big.Int).Sub(a, b) }},
		{"Mul", Mul, func(a, b *big.Int) *big.Int { return new(big.Int).Mul(a, b) }},
		{"Gcd", Gcd, func(a, b *big.Int) *big.Int { return new(big.Int).GCD(nil, nil, a, b) }},
	}
}

// agrees reports where functions differ from a computation with big numbers.
func agrees(t *testing.T, a, b string) {
	t.Helper()
	x, y := bigOf(t, a), bigOf(t, b)
	for _, o := range operations() {
		want, wantErr := o.compute(x, y).String(), api.OK
		if want[0] == '-' {
			want, wantErr = "", api.ErrRange
		} else if len(want) > 300 {
			want, wantErr = "", api.ErrLimit
		}
		if s, err := o.call(a, b); s != want || err != wantErr {
			t.Errorf("%s(%s, %s) is %q, %d; it should be %q, %d", o.name, a, b, s, err, want, wantErr)
		}
	}
	if n, err := Compare(a, b); n != x.Cmp(y) || err != api.OK {
		t.Errorf("Compare(%s, %s) is %d, %d", a, b, n, err)
	}
	q, r, err := Div(a, b)
	if y.Sign() == 0 {
		if q != "" || r != "" || err != api.ErrZero {
			t.Errorf("Div(%s, %s) is %q, %q, %d", a, b, q, r, err)
		}
		return
	}
	wantQ, wantR := new(big.Int).QuoRem(x, y, new(big.Int))
	if q != wantQ.String() || r != wantR.String() || err != api.OK {
		t.Errorf("Div(%s, %s) is %q, %q, %d; it should be %s, %s", a, b, q, r, err, wantQ, wantR)
	}
}

// P4.1, D2 to D4: all functions agree with another computation.
func TestFunctionsAgreeWithAnotherComputation(t *testing.T) {
	l := samples(300)
	for _, a := range l {
		for _, b := range l {
			agrees(t, a, b)
		}
	}
	triples(300, func(a, b, _ string) { agrees(t, a, b) })
	triples(40, func(a, b, _ string) { agrees(t, a, b) })
}

// P4.1, D2.
func TestCompareOfKnownNumbers(t *testing.T) {
	for _, test := range []struct {
		a, b string
		want int
	}{
		{"0", "0", 0}, {"0", "1", -1}, {"1", "0", 1}, {"9", "10", -1}, {"10", "9", 1}, {"123", "124", -1}, {"124", "123", 1},
		{"1000000", "999999", 1}, {"1000001", "2000000", -1}, {"2000000", "1999999", 1}, {"1999999999999", "2000000000000", -1},
		{nines(300), nines(300), 0}, {nines(299) + "8", nines(300), -1}, {nines(300), nines(299), 1}, {powerOfTen(299), nines(299), 1},
	} {
		if n, err := Compare(test.a, test.b); n != test.want || err != api.OK {
			t.Errorf("Compare(%s, %s) is %d, %d", test.a, test.b, n, err)
		}
	}
}

// P4.1, D3.
func TestOperationsOnKnownNumbers(t *testing.T) {
	for _, test := range []struct {
		name string
		call func(a, b string) (string, api.Errno)
		a, b string
		want string
		err  api.Errno
	}{
		{"Add", Add, "0", "0", "0", api.OK},
		{"Add", Add, "5", "7", "12", api.OK},
		{"Add", Add, "999999", "1", "1000000", api.OK},
		{"Add", Add, "1", "999999999999", "1000000000000", api.OK},
		{"Add", Add, "18446744073709551615", "1", "18446744073709551616", api.OK},
		{"Sub", Sub, "0", "0", "0", api.OK},
		{"Sub", Sub, "7", "5", "2", api.OK},
		{"Sub", Sub, "5", "7", "", api.ErrRange},
		{"Sub", Sub, "0", "1", "", api.ErrRange},
		{"Sub", Sub, "1000000", "1", "999999", api.OK},
		{"Sub", Sub, "1000000000000000000", "999999999999999999", "1", api.OK},
		{"Sub", Sub, "999999999999999999", "1000000000000000000", "", api.ErrRange},
		{"Sub", Sub, nines(299), nines(300), "", api.ErrRange},
		{"Sub", Sub, nines(300), nines(300), "0", api.OK},
		{"Mul", Mul, "12", "12", "144", api.OK},
		{"Mul", Mul, "0", nines(300), "0", api.OK},
		{"Mul", Mul, nines(300), "0", "0", api.OK},
		{"Mul", Mul, nines(300), "1", nines(300), api.OK},
		{"Mul", Mul, "1", nines(300), nines(300), api.OK},
		{"Mul", Mul, "1000000", "1000000", "1000000000000", api.OK},
		{"Mul", Mul, "999999", "999999", "999998000001", api.OK},
		{"Mul", Mul, "4294967296", "4294967296", "18446744073709551616", api.OK},
	} {
		if s, err := test.call(test.a, test.b); s != test.want || err != test.err {
			t.Errorf("%s(%s, %s) is %q, %d", test.name, test.a, test.b, s, err)
		}
	}
}

// P4.1, D4: among them divisions by 1, by the number itself, and by a greater one.
func TestDivOfKnownNumbers(t *testing.T) {
	for _, test := range []struct{ a, b, q, r string }{
		{"0", "1", "0", "0"}, {"0", "7", "0", "0"}, {"0", nines(300), "0", "0"},
		{"1", "1", "1", "0"}, {"7", "1", "7", "0"}, {nines(300), "1", nines(300), "0"}, {powerOfTen(299), "1", powerOfTen(299), "0"},
		{"7", "7", "1", "0"}, {"1000000", "1000000", "1", "0"}, {nines(300), nines(300), "1", "0"}, {powerOfTen(299), powerOfTen(299), "1", "0"},
		{"6", "7", "0", "6"}, {"999999", "1000000", "0", "999999"}, {nines(299) + "8", nines(300), "0", nines(299) + "8"}, {"1", nines(300), "0", "1"},
		{"100", "7", "14", "2"}, {"1000000", "999999", "1", "1"}, {"1000000000000", "999999", "1000001", "1"}, {"999999999999", "1000000", "999999", "999999"},
		{nines(300), nines(150), powerOfTen(149) + "1", "0"}, {powerOfTen(299), nines(150), powerOfTen(149), powerOfTen(149)},
	} {
		if q, r, err := Div(test.a, test.b); q != test.q || r != test.r || err != api.OK {
			t.Errorf("Div(%s, %s) is %q, %q, %d", test.a, test.b, q, r, err)
		}
	}
}

// P4.1, D4, and P1: a division by 0 has an error, and nothing comes with it.
func TestDivByZero(t *testing.T) {
	for _, a := range samples(300) {
		if q, r, err := Div(a, "0"); q != "" || r != "" || err != api.ErrZero {
			t.Errorf("Div(%s, 0) is %q, %q, %d", a, q, r, err)
		}
	}
}

// P4.1, D4.
func TestGcdOfKnownNumbers(t *testing.T) {
	for _, test := range []struct{ a, b, want string }{
		{"0", "0", "0"}, {"0", "5", "5"}, {"5", "0", "5"}, {"0", nines(300), nines(300)}, {nines(300), "0", nines(300)},
		{"1", "0", "1"}, {"1", nines(300), "1"}, {nines(300), nines(300), nines(300)},
		{"12", "18", "6"}, {"18", "12", "6"}, {"17", "19", "1"}, {"360", "250", "10"}, {"6", "36", "6"},
		{nines(300), "9", "9"}, {nines(300), nines(200), nines(100)}, {nines(180), nines(300), nines(60)}, {powerOfTen(24), "1024", "1024"}, {powerOfTen(299), nines(299), "1"},
	} {
		if s, err := Gcd(test.a, test.b); s != test.want || err != api.OK {
			t.Errorf("Gcd(%s, %s) is %q, %d", test.a, test.b, s, err)
		}
	}
}

// P4.2: two natural numbers are equal exactly if their texts are.
func TestEqualNumbersHaveEqualTexts(t *testing.T) {
	l := samples(300)
	for _, a := range l {
		for _, b := range l {
			order, err := Compare(a, b)
			if err != api.OK || (order == 0) != (a == b) {
				t.Errorf("Compare(%s, %s) is %d, %d", a, b, order, err)
			}
		}
	}
}

// result is what a function returns.
type result struct {
	s   string
	err api.Errno
}

// given returns the result that is a number itself.
func given(s string) result { return result{s, api.OK} }

// of returns what a function makes of two results. Their errors pass through.
func of(call func(a, b string) (string, api.Errno), a, b result) result {
	if a.err != api.OK {
		return a
	}
	if b.err != api.OK {
		return b
	}
	s, err := call(a.s, b.s)
	return result{s, err}
}

// law compares results where there is no error, and counts how often it did.
type law struct {
	name    string
	compare int
}

func (l *law) same(t *testing.T, a, b result, from ...string) {
	t.Helper()
	if a.err != api.OK || b.err != api.OK {
		return
	}
	l.compare++
	if a != b {
		t.Errorf("%s: %q is not %q, for %q", l.name, a.s, b.s, from)
	}
}

// wasTested reports a law for which hardly any results were compared.
func (l *law) wasTested(t *testing.T) {
	t.Helper()
	if l.compare < 1000 {
		t.Errorf("%s: only %d results are compared", l.name, l.compare)
	}
}

// P4.3.
func TestSumsAndProducts(t *testing.T) {
	swappedSum, swappedProduct := law{name: "a + b = b + a"}, law{name: "a * b = b * a"}
	sums, products := law{name: "(a + b) + c = a + (b + c)"}, law{name: "(a * b) * c = a * (b * c)"}
	distributed := law{name: "(a + b) * c = a * c + b * c"}
	for _, most := range []int{300, 160, 100, 25} {
		triples(most, func(x, y, z string) {
			a, b, c := given(x), given(y), given(z)
			swappedSum.same(t, of(Add, a, b), of(Add, b, a), x, y)
			swappedProduct.same(t, of(Mul, a, b), of(Mul, b, a), x, y)
			sums.same(t, of(Add, of(Add, a, b), c), of(Add, a, of(Add, b, c)), x, y, z)
			products.same(t, of(Mul, of(Mul, a, b), c), of(Mul, a, of(Mul, b, c)), x, y, z)
			distributed.same(t, of(Mul, of(Add, a, b), c), of(Add, of(Mul, a, c), of(Mul, b, c)), x, y, z)
			distributed.same(t, of(Mul, c, of(Add, a, b)), of(Add, of(Mul, c, a), of(Mul, c, b)), x, y, z)
		})
	}
	for _, l := range []law{swappedSum, swappedProduct, sums, products, distributed} {
		l.wasTested(t)
	}
}

// ordered returns the order of two natural numbers.
func ordered(t *testing.T, a, b string) int {
	t.Helper()
	order, err := Compare(a, b)
	if err != api.OK || order < -1 || order > 1 {
		t.Errorf("Compare(%s, %s) is %d, %d", a, b, order, err)
	}
	return order
}

// P4.4: Compare is a total order.
func TestCompareIsATotalOrder(t *testing.T) {
	check := func(a, b, c string) {
		if ordered(t, a, a) != 0 {
			t.Errorf("%s is not equal to itself", a)
		}
		if ordered(t, a, b) != -ordered(t, b, a) {
			t.Errorf("the order of %s and %s depends on which comes first", a, b)
		}
		if ordered(t, a, b) <= 0 && ordered(t, b, c) <= 0 && ordered(t, a, c) > 0 {
			t.Errorf("%s, %s and %s are in a circle", a, b, c)
		}
	}
	triples(300, check)
	triples(8, check)
	// Sorted by their lengths, and by their texts if these are equal, numbers are in their order.
	l := samples(300)
	slices.SortFunc(l, func(a, b string) int {
		if len(a) != len(b) {
			return len(a) - len(b)
		}
		return strings.Compare(a, b)
	})
	for i := range l {
		for j := range i {
			if l[i] != l[j] && ordered(t, l[j], l[i]) != -1 {
				t.Errorf("%s is not less than %s", l[j], l[i])
			}
		}
	}
}

// P4.4: the same number added to both, or multiplied with both, keeps the order.
func TestOrderOfSumsAndProducts(t *testing.T) {
	sums, products := 0, 0
	for _, most := range []int{300, 150, 12} {
		triples(most, func(a, b, c string) {
			order := ordered(t, a, b)
			x, y := of(Add, given(a), given(c)), of(Add, given(b), given(c))
			if x.err == api.OK && y.err == api.OK {
				sums++
				if ordered(t, x.s, y.s) != order {
					t.Errorf("%s and %s are in another order after %s was added", a, b, c)
				}
			}
			x, y = of(Mul, given(a), given(c)), of(Mul, given(b), given(c))
			if c != "0" && x.err == api.OK && y.err == api.OK {
				products++
				if ordered(t, x.s, y.s) != order {
					t.Errorf("%s and %s are in another order after they were multiplied by %s", a, b, c)
				}
			}
		})
	}
	if sums < 1000 || products < 1000 {
		t.Errorf("only %d sums and %d products are compared", sums, products)
	}
}

// P4.4: Sub has the error ErrRange exactly if its first operand is less.
func TestDifferencesBelowZero(t *testing.T) {
	check := func(a, b string) {
		s, err := Sub(a, b)
		if ordered(t, a, b) < 0 {
			if s != "" || err != api.ErrRange {
				t.Errorf("Sub(%s, %s) is %q, %d", a, b, s, err)
			}
		} else if !Is(s) || err != api.OK {
			t.Errorf("Sub(%s, %s) is %q, %d", a, b, s, err)
		}
	}
	triples(300, func(a, b, _ string) {
		check(a, b)
		check(a, a)
		for _, next := range []result{of(Add, given(a), given("1")), of(Sub, given(a), given("1"))} {
			if next.err == api.OK {
				check(a, next.s)
				check(next.s, a)
			}
		}
	})
}

// P4.5.
func TestDifferences(t *testing.T) {
	there, back := law{name: "a + b - b = a"}, law{name: "a - b + b = a"}
	for _, most := range []int{300, 30} {
		triples(most, func(x, y, _ string) {
			a, b := given(x), given(y)
			there.same(t, of(Sub, of(Add, a, b), b), a, x, y)
			back.same(t, of(Add, of(Sub, a, b), b), a, x, y)
		})
	}
	there.wasTested(t)
	back.wasTested(t)
}

// P4.6.
func TestQuotients(t *testing.T) {
	tested := 0
	check := func(q, b, r string) {
		a := of(Add, of(Mul, given(q), given(b)), given(r))
		if a.err != api.OK {
			return
		}
		tested++
		if gotQ, gotR, err := Div(a.s, b); gotQ != q || gotR != r || err != api.OK {
			t.Errorf("Div(%s, %s) is %q, %q, %d; it should be %s, %s", a.s, b, gotQ, gotR, err, q, r)
		}
	}
	for _, most := range []int{200, 150, 60, 18, 7} {
		triples(most, func(q, b, c string) {
			if b == "0" {
				return
			}
			last := of(Sub, given(b), given("1"))
			check(q, b, "0")
			check(q, b, last.s)
			if _, r, err := Div(c, b); err == api.OK {
				check(q, b, r)
			}
		})
	}
	if tested < 10000 {
		t.Errorf("only %d quotients are tested", tested)
	}
}

// P4.7: the greatest common divisor divides both numbers, and the quotients have no common divisor but 1.
func TestCommonDivisorsDivide(t *testing.T) {
	check := func(a, b string) {
		d, err := Gcd(a, b)
		if err != api.OK {
			t.Fatalf("Gcd(%s, %s) has the error %d", a, b, err)
		}
		if a == "0" && b == "0" {
			if d != "0" {
				t.Errorf("Gcd(0, 0) is %q", d)
			}
			return
		}
		x, restX, errX := Div(a, d)
		y, restY, errY := Div(b, d)
		if restX != "0" || restY != "0" || errX != api.OK || errY != api.OK {
			t.Errorf("Gcd(%s, %s) is %s, which does not divide both", a, b, d)
		}
		if one, err := Gcd(x, y); one != "1" || err != api.OK {
			t.Errorf("Gcd(%s, %s) is %s, but the quotients have the divisor %q, %d", a, b, d, one, err)
		}
	}
	for _, most := range []int{300, 60, 10, 3} {
		triples(most, func(a, b, c string) {
			check(a, b)
			x, y := of(Mul, given(a), given(c)), of(Mul, given(b), given(c))
			if x.err == api.OK && y.err == api.OK {
				check(x.s, y.s)
			}
		})
	}
}

// P4.7: a third number multiplies the greatest common divisor.
func TestCommonDivisorsOfProducts(t *testing.T) {
	multiplied := law{name: "Gcd(a * c, b * c) = Gcd(a, b) * c"}
	for _, most := range []int{150, 50, 6} {
		triples(most, func(x, y, z string) {
			a, b, c := given(x), given(y), given(z)
			multiplied.same(t, of(Gcd, of(Mul, a, c), of(Mul, b, c)), of(Mul, of(Gcd, a, b), c), x, y, z)
		})
	}
	multiplied.wasTested(t)
}

// limited reports a result that is not the number of at most 300 digits, or ErrLimit for a greater one.
func limited(t *testing.T, name string, got result, want *big.Int) {
	t.Helper()
	if digits := want.String(); len(digits) <= 300 {
		if got.s != digits || got.err != api.OK {
			t.Errorf("%s of %d digits is %s, %d", name, len(digits), shown(got.s), got.err)
		}
	} else if got.s != "" || got.err != api.ErrLimit {
		t.Errorf("%s of %d digits is %s, %d", name, len(digits), shown(got.s), got.err)
	}
}

// P4.8: products with exactly 300 and 301 digits, and longer ones: of powers of ten, of those less 1, and of both.
func TestTheLimitOfProductsOfAllLengths(t *testing.T) {
	for m := 1; m <= 300; m++ {
		for n := max(1, 299-m); n <= min(300, 303-m); n++ {
			for _, a := range []string{powerOfTen(m - 1), nines(m)} {
				for _, b := range []string{powerOfTen(n - 1), nines(n)} {
					limited(t, "a product", of(Mul, given(a), given(b)), new(big.Int).Mul(bigOf(t, a), bigOf(t, b)))
				}
			}
		}
	}
	limited(t, "a product", of(Mul, given(nines(300)), given(nines(300))), new(big.Int).Mul(bigOf(t, nines(300)), bigOf(t, nines(300))))
}

// P4.8: the greatest product with a factor that has 300 digits, and the least one that has 301.
func TestTheLimitOfProductsWithAFactor(t *testing.T) {
	one, least := big.NewInt(1), new(big.Int).Exp(big.NewInt(10), big.NewInt(300), nil)
	for _, a := range samples(300) {
		x := bigOf(t, a)
		if x.Cmp(one) <= 0 {
			continue
		}
		y := new(big.Int).Quo(new(big.Int).Sub(least, one), x)
		for _, factor := range []*big.Int{y, new(big.Int).Add(y, one)} {
			product := new(big.Int).Mul(x, factor)
			limited(t, "a product", of(Mul, given(a), given(factor.String())), product)
			limited(t, "a product", of(Mul, given(factor.String()), given(a)), product)
		}
		if s, err := Mul(a, y.String()); len(s) != 300 && y.Sign() > 0 && len(a) <= 150 {
			t.Errorf("the greatest product with %s has not 300 digits: %q, %d", a, s, err)
		}
		if s, err := Mul(a, new(big.Int).Add(y, one).String()); s != "" || err != api.ErrLimit {
			t.Errorf("the least product with %s that has 301 digits is %q, %d", a, s, err)
		}
	}
}

// P4.8 and D3: sums up to the limit. One more than 299 digits 9 is a number, one more than 300 of them is not.
func TestTheLimitOfSums(t *testing.T) {
	for _, test := range []struct {
		a, b, want string
		err        api.Errno
	}{
		{nines(298), "1", powerOfTen(298), api.OK},
		{nines(299), "1", powerOfTen(299), api.OK},
		{nines(299), nines(299), "1" + nines(298) + "8", api.OK},
		{nines(299) + "8", "1", nines(300), api.OK},
		{nines(300), "0", nines(300), api.OK},
		{nines(300), "1", "", api.ErrLimit},
		{"1", nines(300), "", api.ErrLimit},
		{nines(299) + "8", "2", "", api.ErrLimit},
		{nines(300), nines(300), "", api.ErrLimit},
		{"5" + strings.Repeat("0", 299), "4" + nines(299), nines(300), api.OK},
		{"5" + strings.Repeat("0", 299), "5" + strings.Repeat("0", 299), "", api.ErrLimit},
	} {
		if s, err := Add(test.a, test.b); s != test.want || err != test.err {
			t.Errorf("Add(%s, %s) is %q, %d", test.a, test.b, s, err)
		}
	}
	greatest := bigOf(t, nines(300))
	for _, a := range samples(300) {
		x := bigOf(t, a)
		y := new(big.Int).Sub(greatest, x)
		limited(t, "a sum", of(Add, given(a), given(y.String())), greatest)
		if next := new(big.Int).Add(y, big.NewInt(1)); len(next.String()) <= 300 {
			limited(t, "a sum", of(Add, given(a), given(next.String())), new(big.Int).Add(x, next))
		}
	}
}

// agreesWithInts reports where functions differ from computing in ints, for numbers whose product is an int.
func agreesWithInts(t *testing.T, a, b int) {
	t.Helper()
	x, y := strconv.Itoa(a), strconv.Itoa(b)
	if !Is(x) || Of(a) != x {
		t.Errorf("%d is %v, %q", a, Is(x), Of(a))
	}
	if n, err := Int(x); n != a || err != api.OK {
		t.Errorf("Int(%s) is %d, %d", x, n, err)
	}
	order := 0
	difference, err := a-b, api.OK
	if a > b {
		order = 1
	} else if a < b {
		order, err = -1, api.ErrRange
	}
	if n, err := Compare(x, y); n != order || err != api.OK {
		t.Errorf("Compare(%d, %d) is %d, %d", a, b, n, err)
	}
	common := func(a, b int) int {
		for b > 0 {
			a, b = b, a%b
		}
		return a
	}
	for _, test := range []struct {
		name string
		got  result
		want int
		err  api.Errno
	}{
		{"Add", of(Add, given(x), given(y)), a + b, api.OK},
		{"Sub", of(Sub, given(x), given(y)), difference, err},
		{"Mul", of(Mul, given(x), given(y)), a * b, api.OK},
		{"Gcd", of(Gcd, given(x), given(y)), common(a, b), api.OK},
	} {
		want := result{strconv.Itoa(test.want), test.err}
		if test.err != api.OK {
			want.s = ""
		}
		if test.got != want {
			t.Errorf("%s(%d, %d) is %q, %d", test.name, a, b, test.got.s, test.got.err)
		}
	}
	q, r, err := Div(x, y)
	if b == 0 {
		if q != "" || r != "" || err != api.ErrZero {
			t.Errorf("Div(%d, 0) is %q, %q, %d", a, q, r, err)
		}
	} else if q != strconv.Itoa(a/b) || r != strconv.Itoa(a%b) || err != api.OK {
		t.Errorf("Div(%d, %d) is %q, %q, %d", a, b, q, r, err)
	}
}

// P4.9: all small numbers, and others whose products are ints.
func TestSmallNumbers(t *testing.T) {
	for a := range 120 {
		for b := range 120 {
			agreesWithInts(t, a, b)
		}
	}
	borders := []int{0, 1, 9, 10, 11, 99, 100, 255, 256, 999, 1000, 9999, 10000, 65535, 65536, 99999, 100000, 999998, 999999, 1000000, 1000001, 1999999, 2000000, 16777216, 99999999, 100000000, 999999999, 1000000000, 1000000001, 1 << 30, 1<<31 - 1}
	for _, a := range borders {
		for _, b := range borders {
			agreesWithInts(t, a, b)
		}
	}
	r := rand.New(rand.NewPCG(4, 4))
	for range 20000 {
		agreesWithInts(t, int(r.Uint32()>>(1+r.IntN(31))), int(r.Uint32()>>(1+r.IntN(31))))
	}
}

// P1: all functions end, also for the numbers with the most divisions, for long texts, and for what is no text.
func TestLongComputations(t *testing.T) {
	a, b := big.NewInt(0), big.NewInt(1)
	for len(b.String()) <= 300 {
		// Each division of two of these numbers has the quotient 1.
		if d, err := Gcd(b.String(), a.String()); d != "1" || err != api.OK {
			t.Errorf("Gcd(%s, %s) is %q, %d", b, a, d, err)
		}
		a.Add(a, b)
		a, b = b, a
	}
	for _, s := range []string{strings.Repeat("1", 1<<20), strings.Repeat("0", 1<<20), strings.Repeat("\xff", 1<<20), nines(301)} {
		if Is(s) {
			t.Errorf("Is(%s) is true", shown(s))
		}
		if n, err := Int(s); n != 0 || err != api.ErrArg {
			t.Errorf("Int(%s) is %d, %d", shown(s), n, err)
		}
		refused(t, s, s)
		refused(t, s, "0")
		refused(t, "1", s)
	}
}

// everything returns all that the functions tell about two texts.
func everything(a, b string) []any {
	n, err := Int(a)
	l := []any{Is(a), Of(n), n, err}
	n, err = Compare(a, b)
	l = append(l, n, err)
	q, r, err := Div(a, b)
	l = append(l, q, r, err)
	for _, o := range operations() {
		s, err := o.call(a, b)
		l = append(l, s, err)
	}
	return l
}

// P3.
func TestEqualArgumentsYieldEqualResults(t *testing.T) {
	texts := append(samples(300), unnatural()...)
	var first [][]any
	for i, a := range texts {
		first = append(first, everything(a, texts[len(texts)-1-i]))
	}
	for i := len(texts) - 1; i >= 0; i-- {
		again := everything(strings.Clone(texts[i]), strings.Clone(texts[len(texts)-1-i]))
		if !slices.Equal(first[i], again) {
			t.Errorf("%s and %s yield other results", shown(texts[i]), shown(texts[len(texts)-1-i]))
		}
	}
}
