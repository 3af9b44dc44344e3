package ratio

import (
	"math"
	"math/big"
	"math/rand/v2"
	"regexp"
	"slices"
	"strconv"
	"strings"
	"testing"

	"customhouse/api"
)

// q returns a rational number, which may be not valid.
func q(neg bool, num, den string) api.Ratio { return api.Ratio{Neg: neg, Num: num, Den: den} }

// nines returns the digits of one less than a power of ten.
func nines(n int) string { return strings.Repeat("9", n) }

// tens returns the digits of a power of ten.
func tens(n int) string { return "1" + strings.Repeat("0", n) }

// shown returns what tells apart the numbers of these tests, without most of the digits of long ones.
func shown(r api.Ratio) string {
	short := func(s string) string {
		if len(s) > 30 {
			return s[:12] + ".." + s[len(s)-12:] + " (" + strconv.Itoa(len(s)) + " digits)"
		}
		return s
	}
	return "{" + strconv.FormatBool(r.Neg) + ", " + strconv.Quote(short(r.Num)) + ", " + strconv.Quote(short(r.Den)) + "}"
}

// value returns the value of a valid number.
func value(t *testing.T, r api.Ratio) *big.Rat {
	t.Helper()
	v, ok := new(big.Rat).SetString(r.Num + "/" + r.Den)
	if !ok {
		t.Fatalf("%s has no value", shown(r))
	}
	if r.Neg {
		v.Neg(v)
	}
	return v
}

// form returns the valid number with a value.
func form(v *big.Rat) api.Ratio {
	return q(v.Sign() < 0, new(big.Int).Abs(v.Num()).String(), v.Denom().String())
}

// parts tells the sign and the digits of all texts that are made of one or two natural numbers.
var parts = regexp.MustCompile(`\A(-?)(0|[1-9][0-9]*)(?:/(0|[1-9][0-9]*))?\z`)

// isText reports whether a text is that of a valid number. It computes with big numbers.
func isText(text string) bool {
	found := parts.FindStringSubmatch(text)
	if found == nil || len(found[2]) > 300 || len(found[3]) > 300 {
		return false
	}
	num, _ := new(big.Int).SetString(found[2], 10)
	if found[3] == "" {
		return num.Sign() != 0 || found[1] == ""
	}
	den, _ := new(big.Int).SetString(found[3], 10)
	one := big.NewInt(1)
	return num.Sign() > 0 && den.Cmp(one) > 0 && new(big.Int).GCD(nil, nil, num, den).Cmp(one) == 0
}

// digits returns a natural number. Many of its digits are the same one.
func digits(r *rand.Rand, most int) *big.Int {
	text := []byte(strings.Repeat(strconv.Itoa(r.IntN(10)), 1+r.IntN(most)))
	for range r.IntN(1 + len(text)) {
		text[r.IntN(len(text))] = '0' + byte(r.IntN(10))
	}
	n, _ := new(big.Int).SetString(string(text), 10)
	return n
}

// fraction returns a valid number of at most so many digits in Num and in Den.
func fraction(r *rand.Rand, most int) api.Ratio {
	num, den := digits(r, most), digits(r, most)
	if den.Sign() == 0 || r.IntN(6) == 0 {
		den = big.NewInt(1)
	}
	if r.IntN(2) == 0 {
		num.Neg(num)
	}
	return form(new(big.Rat).SetFrac(num, den))
}

// samples are valid numbers of many lengths: the least ones, those around powers of ten and around the limits of int, and random ones. None has more than so many digits.
func samples(most int) []api.Ratio {
	var l []api.Ratio
	for _, neg := range []bool{false, true} {
		for _, r := range []api.Ratio{
			q(neg, "1", "1"), q(neg, "1", "2"), q(neg, "1", "3"), q(neg, "2", "3"), q(neg, "3", "2"), q(neg, "4", "3"), q(neg, "6", "1"),
			q(neg, "1", "6"), q(neg, "5", "6"), q(neg, "7", "12"), q(neg, "1000000", "1"), q(neg, "1", "1000000"), q(neg, "999999", "1000000"),
			q(neg, "9223372036854775807", "1"), q(neg, "9223372036854775808", "1"), q(neg, "9223372036854775809", "1"),
			q(neg, "9223372036854775807", "2"), q(neg, "18446744073709551615", "2"), q(neg, "18446744073709551617", "2"),
			q(neg, "27670116110564327423", "3"), q(neg, "27670116110564327425", "3"), q(neg, "1", "9223372036854775808"),
		} {
			l = append(l, r)
		}
		for _, n := range []int{20, 59, 60, 61, 139, 140, 141, 150, 299, 300} {
			l = append(l, q(neg, nines(n), "1"), q(neg, "1", nines(n)), q(neg, nines(n), tens(n-1)), q(neg, tens(n-1), nines(n)), q(neg, nines(n), nines(n-1)+"8"), q(neg, tens(n-1), "3"))
		}
	}
	r := rand.New(rand.NewPCG(5, 1))
	for range 30 {
		l = append(l, fraction(r, most), fraction(r, min(most, 3)))
	}
	l = append(l, q(false, "0", "1"))
	return slices.DeleteFunc(l, func(x api.Ratio) bool { return max(len(x.Num), len(x.Den)) > most })
}

// triples calls a function with many triples of valid numbers of at most so many digits.
func triples(most int, check func(a, b, c api.Ratio)) {
	r := rand.New(rand.NewPCG(5, 2))
	l := samples(most)
	sample := func() api.Ratio { return l[r.IntN(len(l))] }
	for range 400 {
		check(sample(), sample(), sample())
		check(fraction(r, most), fraction(r, most), fraction(r, most))
		check(fraction(r, 2), fraction(r, 2), fraction(r, 2))
	}
}

// unnatural are texts that are no natural numbers.
func unnatural() []string {
	return []string{"", "00", "01", "007", "-", "+", "-0", "-1", "+1", "--1", " ", " 1", "1 ", "1\n", "\x001", "a", "1x", "0x10", "1e3", "1.0", "1,000", "1_000",
		"/", "1/", "/1", "1/1", "1/2", "\u0661", "\uff11", "\xff", nines(301), tens(300), strings.Repeat("0", 300), nines(299) + "x", nines(5000)}
}

// invalid are numbers that are not valid, though all but those of unnatural texts have a value, or the denominator 0.
func invalid() []api.Ratio {
	l := []api.Ratio{
		{}, q(true, "", ""), q(true, "0", "1"), q(true, "0", "2"), q(false, "0", "2"), q(false, "0", nines(300)),
		q(false, "0", "0"), q(true, "0", "0"), q(false, "1", "0"), q(true, "1", "0"), q(false, nines(300), "0"),
		q(false, "2", "2"), q(true, "2", "2"), q(false, "2", "4"), q(false, "4", "2"), q(false, "6", "4"), q(true, "6", "4"), q(false, "21", "14"),
		q(false, "1000000", "2"), q(false, "999999", "3"), q(false, tens(140), "10"), q(false, nines(140), nines(140)), q(false, nines(300), nines(300)),
		q(false, nines(300), nines(150)), q(true, tens(299), tens(298)), q(false, "3", nines(300)), q(false, tens(299), "5"),
	}
	for _, s := range unnatural() {
		l = append(l, q(false, s, "1"), q(true, "1", s), q(false, s, "0"), q(false, "0", s), q(true, s, s))
	}
	return l
}

// good reports whether a result is the valid number with a value, and has no error.
func good(got api.Ratio, err api.Errno, want *big.Rat) bool {
	return got == form(want) && err == api.OK
}

// function tells what a function of two numbers computes. There is no value of a division by 0.
type function struct {
	name    string
	call    func(a, b api.Ratio) (api.Ratio, api.Errno)
	compute func(a, b *big.Rat) *big.Rat
}

func functions() []function {
	return []function{
		{"Add", Add, func(a, b *big.Rat) *big.Rat { return new(big.Rat).Add(a, b) }},
		{"Sub", Sub, func(a, b *big.Rat) *big.Rat { return new(big.Rat).Sub(a, b) }},
		{"Mul", Mul, func(a, b *big.Rat) *big.Rat { return new(big.Rat).Mul(a, b) }},
		{"Div", Div, func(a, b *big.Rat) *big.Rat {
			if b.Sign() == 0 {
				return nil
			}
			return new(big.Rat).Quo(a, b)
		}},
	}
}

// P5.1, E1.
func TestValid(t *testing.T) {
	for _, r := range samples(300) {
		if !Valid(r) {
			t.Errorf("Valid(%s) is false", shown(r))
		}
	}
	for _, r := range invalid() {
		if Valid(r) {
			t.Errorf("Valid(%s) is true", shown(r))
		}
	}
}

// P5.1, E1: all small numbers.
func TestValidOfSmallNumbers(t *testing.T) {
	for num := range 70 {
		for den := range 70 {
			for _, neg := range []bool{false, true} {
				r := q(neg, strconv.Itoa(num), strconv.Itoa(den))
				lowest := new(big.Int).GCD(nil, nil, big.NewInt(int64(num)), big.NewInt(int64(den))).Int64() == 1
				if want := den > 0 && lowest && !(neg && num == 0); Valid(r) != want {
					t.Errorf("Valid(%s) is %v", shown(r), !want)
				}
			}
		}
	}
}

// P5.1, E1: 0 has one form.
func TestZeroHasOneForm(t *testing.T) {
	forms := 0
	for _, num := range []string{"0", "00", "", "-0", "+0", "0.0"} {
		for _, den := range []string{"0", "1", "2", "3", "01", "", nines(300)} {
			for _, neg := range []bool{false, true} {
				if Valid(q(neg, num, den)) {
					forms++
				}
			}
		}
	}
	if forms != 1 || !Valid(q(false, "0", "1")) {
		t.Errorf("0 has %d forms", forms)
	}
}

// ints are numbers of the type int: small ones, the least and the greatest ones, and random ones.
func ints() []int {
	l := []int{math.MinInt, math.MinInt + 1, math.MinInt + 2, math.MinInt / 2, math.MinInt/2 + 1, math.MaxInt, math.MaxInt - 1, math.MaxInt / 7, 1 << 32, -1 << 32, 1000000, -999999, 720720, -720720}
	for n := -40; n <= 40; n++ {
		l = append(l, n)
	}
	r := rand.New(rand.NewPCG(5, 3))
	for range 60 {
		l = append(l, int(r.Uint64()>>r.IntN(64)), -int(r.Uint64()>>(1+r.IntN(63))))
	}
	return l
}

// P5.1, E2 and P5.6.
func TestOf(t *testing.T) {
	for _, num := range ints() {
		if r, err := Of(num, 0); r != (api.Ratio{}) || err != api.ErrZero {
			t.Errorf("Of(%d, 0) is %s, %d", num, shown(r), err)
		}
		for _, den := range ints() {
			if den == 0 {
				continue
			}
			r, err := Of(num, den)
			if !good(r, err, new(big.Rat).SetFrac(big.NewInt(int64(num)), big.NewInt(int64(den)))) {
				t.Errorf("Of(%d, %d) is %s, %d", num, den, shown(r), err)
			}
		}
	}
}

// P5.1, E2: known quotients, with the least int as num, as den and as both.
func TestOfKnownNumbers(t *testing.T) {
	for _, test := range []struct {
		num, den int
		want     api.Ratio
		err      api.Errno
	}{
		{6, -4, q(true, "3", "2"), api.OK},
		{-6, -4, q(false, "3", "2"), api.OK},
		{-6, 4, q(true, "3", "2"), api.OK},
		{6, 4, q(false, "3", "2"), api.OK},
		{0, 5, q(false, "0", "1"), api.OK},
		{0, -5, q(false, "0", "1"), api.OK},
		{12, -4, q(true, "3", "1"), api.OK},
		{7, 7, q(false, "1", "1"), api.OK},
		{math.MinInt, 1, q(true, "9223372036854775808", "1"), api.OK},
		{math.MinInt, -1, q(false, "9223372036854775808", "1"), api.OK},
		{1, math.MinInt, q(true, "1", "9223372036854775808"), api.OK},
		{-1, math.MinInt, q(false, "1", "9223372036854775808"), api.OK},
		{0, math.MinInt, q(false, "0", "1"), api.OK},
		{math.MinInt, math.MinInt, q(false, "1", "1"), api.OK},
		{math.MinInt, math.MaxInt, q(true, "9223372036854775808", "9223372036854775807"), api.OK},
		{math.MaxInt, math.MinInt, q(true, "9223372036854775807", "9223372036854775808"), api.OK},
		{6, math.MinInt, q(true, "3", "4611686018427387904"), api.OK},
		{math.MinInt, 6, q(true, "4611686018427387904", "3"), api.OK},
		{math.MinInt, 0, api.Ratio{}, api.ErrZero},
		{0, 0, api.Ratio{}, api.ErrZero},
		{3, 0, api.Ratio{}, api.ErrZero},
	} {
		if r, err := Of(test.num, test.den); r != test.want || err != test.err {
			t.Errorf("Of(%d, %d) is %s, %d", test.num, test.den, shown(r), err)
		}
	}
}

// P5.1, E2 and P5.6: quotients of all lengths up to 300 digits, in lowest terms.
func TestMake(t *testing.T) {
	check := func(num, den *big.Int) {
		for _, neg := range []bool{false, true} {
			want := new(big.Rat).SetFrac(num, den)
			if neg {
				want.Neg(want)
			}
			if r, err := Make(neg, num.String(), den.String()); !good(r, err, want) {
				t.Errorf("Make(%v, %d, %d) is %s, %d", neg, num, den, shown(r), err)
			}
		}
	}
	for num := range int64(60) {
		for den := range int64(60) {
			check(big.NewInt(num), big.NewInt(den+1))
		}
	}
	r := rand.New(rand.NewPCG(5, 4))
	for range 1500 {
		num, den, factor := digits(r, 300), digits(r, 300), digits(r, 150)
		den.Add(den, big.NewInt(1))
		if len(den.String()) <= 300 {
			check(num, den)
		}
		num, den = digits(r, 150), digits(r, 150)
		if den.Sign() > 0 && factor.Sign() > 0 {
			check(num.Mul(num, factor), den.Mul(den, factor))
		}
	}
}

// P5.1, E2: numbers with 300 digits, and the errors in their order.
func TestMakeOfKnownNumbers(t *testing.T) {
	for _, test := range []struct {
		neg      bool
		num, den string
		want     api.Ratio
		err      api.Errno
	}{
		{true, "10", "4", q(true, "5", "2"), api.OK},
		{false, "10", "4", q(false, "5", "2"), api.OK},
		{true, "0", "4", q(false, "0", "1"), api.OK},
		{false, "0", "1", q(false, "0", "1"), api.OK},
		{true, "5", "5", q(true, "1", "1"), api.OK},
		{false, nines(300), "1", q(false, nines(300), "1"), api.OK},
		{true, "1", nines(300), q(true, "1", nines(300)), api.OK},
		{true, nines(300), nines(300), q(true, "1", "1"), api.OK},
		{false, nines(300), "9", q(false, strings.Repeat("1", 300), "1"), api.OK},
		{false, tens(299), tens(298), q(false, "10", "1"), api.OK},
		{false, nines(300), tens(299), q(false, nines(300), tens(299)), api.OK},
		{false, nines(301), "1", api.Ratio{}, api.ErrArg},
		{false, "1", tens(300), api.Ratio{}, api.ErrArg},
		{false, tens(300), tens(300), api.Ratio{}, api.ErrArg},
		{false, "1", "0", api.Ratio{}, api.ErrZero},
		{true, "0", "0", api.Ratio{}, api.ErrZero},
		{true, nines(300), "0", api.Ratio{}, api.ErrZero},
	} {
		if r, err := Make(test.neg, test.num, test.den); r != test.want || err != test.err {
			t.Errorf("Make(%v, %s) is %s, %d", test.neg, shown(q(test.neg, test.num, test.den)), shown(r), err)
		}
	}
	for _, s := range unnatural() {
		for _, other := range append(unnatural(), "0", "1", "12", nines(300)) {
			for _, r := range []api.Ratio{q(false, s, other), q(true, s, other), q(false, other, s), q(true, other, s)} {
				if got, err := Make(r.Neg, r.Num, r.Den); got != (api.Ratio{}) || err != api.ErrArg {
					t.Errorf("Make of %s is %s, %d", shown(r), shown(got), err)
				}
			}
		}
	}
}

// P5.1, E3.
func TestOperationsOnKnownNumbers(t *testing.T) {
	half, third, none := q(false, "1", "2"), q(false, "1", "3"), q(false, "0", "1")
	for _, test := range []struct {
		name       string
		call       func(a, b api.Ratio) (api.Ratio, api.Errno)
		a, b, want api.Ratio
		err        api.Errno
	}{
		{"Add", Add, half, third, q(false, "5", "6"), api.OK},
		{"Add", Add, half, half, q(false, "1", "1"), api.OK},
		{"Add", Add, half, q(true, "1", "2"), none, api.OK},
		{"Add", Add, q(true, "1", "2"), half, none, api.OK},
		{"Add", Add, none, none, none, api.OK},
		{"Add", Add, q(true, "1", "2"), q(true, "1", "2"), q(true, "1", "1"), api.OK},
		{"Add", Add, q(true, "1", "6"), half, third, api.OK},
		{"Add", Add, q(true, "2", "1"), half, q(true, "3", "2"), api.OK},
		{"Add", Add, half, q(true, "2", "1"), q(true, "3", "2"), api.OK},
		{"Sub", Sub, half, half, none, api.OK},
		{"Sub", Sub, none, half, q(true, "1", "2"), api.OK},
		{"Sub", Sub, half, none, half, api.OK},
		{"Sub", Sub, none, none, none, api.OK},
		{"Sub", Sub, third, half, q(true, "1", "6"), api.OK},
		{"Sub", Sub, q(true, "1", "2"), q(true, "1", "3"), q(true, "1", "6"), api.OK},
		{"Sub", Sub, half, q(true, "1", "2"), q(false, "1", "1"), api.OK},
		{"Mul", Mul, q(true, "2", "3"), q(true, "3", "4"), half, api.OK},
		{"Mul", Mul, q(true, "2", "3"), q(false, "3", "2"), q(true, "1", "1"), api.OK},
		{"Mul", Mul, q(true, "2", "3"), none, none, api.OK},
		{"Mul", Mul, none, q(true, "2", "3"), none, api.OK},
		{"Div", Div, q(false, "3", "4"), q(true, "1", "2"), q(true, "3", "2"), api.OK},
		{"Div", Div, none, q(true, "1", "2"), none, api.OK},
		{"Div", Div, half, half, q(false, "1", "1"), api.OK},
		{"Div", Div, half, none, api.Ratio{}, api.ErrZero},
		{"Div", Div, none, none, api.Ratio{}, api.ErrZero},
	} {
		if r, err := test.call(test.a, test.b); r != test.want || err != test.err {
			t.Errorf("%s(%s, %s) is %s, %d", test.name, shown(test.a), shown(test.b), shown(r), err)
		}
	}
}

// agrees reports where functions differ from a computation with big numbers, for arguments of at most 140 digits.
func agrees(t *testing.T, a, b api.Ratio) {
	t.Helper()
	x, y := value(t, a), value(t, b)
	for _, f := range functions() {
		got, err := f.call(a, b)
		want := f.compute(x, y)
		if want == nil {
			if got != (api.Ratio{}) || err != api.ErrZero {
				t.Errorf("%s(%s, %s) is %s, %d", f.name, shown(a), shown(b), shown(got), err)
			}
		} else if !good(got, err, want) {
			t.Errorf("%s(%s, %s) is %s, %d; it should be %s", f.name, shown(a), shown(b), shown(got), err, shown(form(want)))
		}
	}
	if n, err := Compare(a, b); n != x.Cmp(y) || err != api.OK {
		t.Errorf("Compare(%s, %s) is %d, %d", shown(a), shown(b), n, err)
	}
}

// P5.1, E3 and E4, and P5.6: sums, differences, products, quotients and orders agree with another computation.
func TestFunctionsAgreeWithAnotherComputation(t *testing.T) {
	l := samples(140)
	for i, a := range l {
		for j := i % 6; j < len(l); j += 6 {
			agrees(t, a, l[j])
		}
		agrees(t, a, a)
		agrees(t, a, form(new(big.Rat).Neg(value(t, a))))
	}
	for _, most := range []int{140, 18} {
		triples(most, func(a, b, _ api.Ratio) { agrees(t, a, b) })
	}
}

// P5.1, E3: the longest results of arguments of 140 digits have less than 300 digits, so that none has the error ErrLimit.
func TestTheLongestResults(t *testing.T) {
	a, b := q(false, nines(140), nines(139)+"8"), q(false, nines(139)+"8", nines(140))
	for _, test := range []struct {
		name     string
		call     func(a, b api.Ratio) (api.Ratio, api.Errno)
		a, b     api.Ratio
		num, den int
	}{
		{"Add", Add, a, b, 281, 280},
		{"Sub", Sub, a, q(true, b.Num, b.Den), 281, 280},
		{"Sub", Sub, q(true, a.Num, a.Den), b, 281, 280},
		{"Mul", Mul, a, a, 280, 280},
		{"Mul", Mul, q(false, nines(140), "1"), q(false, nines(140), "1"), 280, 1},
		{"Div", Div, q(false, "1", nines(140)), q(true, nines(140), "1"), 1, 280},
		{"Div", Div, a, b, 280, 280},
	} {
		r, err := test.call(test.a, test.b)
		if len(r.Num) != test.num || len(r.Den) != test.den || err != api.OK {
			t.Errorf("%s(%s, %s) is %s, %d", test.name, shown(test.a), shown(test.b), shown(r), err)
		}
		agrees(t, test.a, test.b)
	}
}

// P5.1, E3: a result of 300 digits is within the limit, and one of 301 digits is not. Arguments of 140 digits do not lead there, so that the functions behind the operations are called here.
func TestTheLimitOfResults(t *testing.T) {
	for _, test := range []struct {
		name       string
		join       func(a, b api.Ratio) (api.Ratio, api.Errno)
		a, b, want api.Ratio
		err        api.Errno
	}{
		{"sum", sum, q(false, nines(299), "1"), q(false, "1", "1"), q(false, tens(299), "1"), api.OK},
		{"sum", sum, q(false, nines(300), "1"), q(false, "1", "1"), api.Ratio{}, api.ErrLimit},
		{"sum", sum, q(true, "1", tens(299)), q(true, "1", "1"), q(true, tens(298)+"1", tens(299)), api.OK},
		{"sum", sum, q(false, "1", tens(299)), q(true, "1", nines(150)), api.Ratio{}, api.ErrLimit},
		{"product", product, q(false, nines(150), "1"), q(false, nines(150), "1"), q(false, nines(149)+"8"+strings.Repeat("0", 149)+"1", "1"), api.OK},
		{"product", product, q(false, tens(150), "1"), q(false, tens(150), "1"), api.Ratio{}, api.ErrLimit},
		{"product", product, q(false, "1", tens(150)), q(false, "1", tens(149)), q(false, "1", tens(299)), api.OK},
		{"product", product, q(false, "1", tens(150)), q(true, "1", tens(150)), api.Ratio{}, api.ErrLimit},
		{"product", product, q(false, tens(150), "3"), q(true, tens(150), "7"), api.Ratio{}, api.ErrLimit},
	} {
		r, err := reduced(test.join(test.a, test.b))
		if r != test.want || err != test.err {
			t.Errorf("the %s of %s and %s is %s, %d", test.name, shown(test.a), shown(test.b), shown(r), err)
		}
	}
}

// refused reports where functions accept two arguments of which an error is expected. Div may have another one.
func refused(t *testing.T, a, b api.Ratio, want, wantOfDiv api.Errno) {
	t.Helper()
	for _, f := range functions() {
		err := want
		if f.name == "Div" {
			err = wantOfDiv
		}
		if got, gotErr := f.call(a, b); got != (api.Ratio{}) || gotErr != err {
			t.Errorf("%s(%s, %s) is %s, %d; it should have the error %d", f.name, shown(a), shown(b), shown(got), gotErr, err)
		}
	}
	if n, err := Compare(a, b); n != 0 || err != want {
		t.Errorf("Compare(%s, %s) is %d, %d; it should have the error %d", shown(a), shown(b), n, err, want)
	}
}

// P5.1, E3 and E4: arguments of 140 digits have results, and those of 141 digits have none.
func TestTheLimitOfArguments(t *testing.T) {
	one := q(false, "1", "1")
	for _, r := range []api.Ratio{q(false, nines(140), "1"), q(true, "1", nines(140)), q(false, tens(139), nines(140)), q(true, nines(140), tens(138))} {
		for _, other := range []api.Ratio{one, q(true, "1", "2"), q(false, "0", "1"), r, q(!r.Neg, r.Num, r.Den)} {
			agrees(t, r, other)
			agrees(t, other, r)
		}
	}
	long := []api.Ratio{q(false, nines(141), "1"), q(true, tens(140), "1"), q(false, "1", nines(141)), q(true, "1", tens(140)), q(false, tens(140), nines(141)), q(true, tens(140), nines(140)), q(false, tens(139), nines(141)), q(false, nines(300), "1"), q(true, "1", nines(300))}
	for _, a := range long {
		for _, b := range append(samples(140), long...) {
			ofDiv := api.ErrLimit
			if b.Num == "0" {
				// E3 names the division by 0 before the limit.
				ofDiv = api.ErrZero
			}
			refused(t, a, b, api.ErrLimit, ofDiv)
			refused(t, b, a, api.ErrLimit, api.ErrLimit)
		}
		refused(t, a, q(!a.Neg, a.Num, a.Den), api.ErrLimit, api.ErrLimit)
	}
}

// P5.1, E3 to E6, and P1: what is not valid has the error ErrArg, before all other errors.
func TestNumbersThatAreNotValid(t *testing.T) {
	others := append(invalid(), q(false, "0", "1"), q(true, "1", "2"), q(false, nines(140), "1"), q(false, nines(141), "1"), q(true, "1", nines(300)))
	for _, r := range invalid() {
		for _, other := range others {
			refused(t, r, other, api.ErrArg, api.ErrArg)
			refused(t, other, r, api.ErrArg, api.ErrArg)
		}
		if n, err := Floor(r); n != 0 || err != api.ErrArg {
			t.Errorf("Floor(%s) is %d, %d", shown(r), n, err)
		}
		if s, err := Text(r); s != "" || err != api.ErrArg {
			t.Errorf("Text(%s) is %q, %d", shown(r), s, err)
		}
	}
}

// P5.1, E4.
func TestCompareOfKnownNumbers(t *testing.T) {
	for _, test := range []struct {
		a, b api.Ratio
		want int
	}{
		{q(true, "1", "3"), q(true, "1", "2"), 1}, {q(true, "1", "2"), q(true, "1", "3"), -1}, {q(false, "1", "3"), q(false, "1", "2"), -1},
		{q(false, "1", "2"), q(true, "1", "2"), 1}, {q(true, "1", "2"), q(false, "1", "2"), -1}, {q(true, "5", "1"), q(false, "1", "9"), -1},
		{q(false, "0", "1"), q(false, "0", "1"), 0}, {q(true, "1", "3"), q(false, "0", "1"), -1}, {q(false, "0", "1"), q(true, "1", "3"), 1},
		{q(false, "0", "1"), q(false, "1", nines(140)), -1}, {q(false, "2", "3"), q(false, "2", "3"), 0}, {q(true, "2", "3"), q(true, "2", "3"), 0},
		{q(false, "2", "3"), q(false, "3", "4"), -1}, {q(false, "9", "1"), q(false, "10", "1"), -1}, {q(false, "19", "2"), q(false, "9", "1"), 1},
		{q(false, nines(140), nines(139)+"8"), q(false, nines(139)+"8", nines(139)+"7"), -1},
		{q(true, nines(140), nines(139)+"8"), q(true, nines(139)+"8", nines(139)+"7"), 1},
	} {
		if n, err := Compare(test.a, test.b); n != test.want || err != api.OK {
			t.Errorf("Compare(%s, %s) is %d, %d", shown(test.a), shown(test.b), n, err)
		}
	}
}

// P5.1, E5: negative numbers, and those at the limits of int.
func TestFloorOfKnownNumbers(t *testing.T) {
	for _, test := range []struct {
		r    api.Ratio
		want int
		err  api.Errno
	}{
		{q(true, "3", "2"), -2, api.OK}, {q(false, "3", "2"), 1, api.OK}, {q(false, "5", "1"), 5, api.OK}, {q(true, "5", "1"), -5, api.OK}, {q(true, "4", "1"), -4, api.OK},
		{q(false, "0", "1"), 0, api.OK}, {q(false, "1", "2"), 0, api.OK}, {q(true, "1", "2"), -1, api.OK}, {q(true, "1", "1"), -1, api.OK}, {q(false, "1", "1"), 1, api.OK},
		{q(false, "1", nines(300)), 0, api.OK}, {q(true, "1", nines(300)), -1, api.OK}, {q(false, nines(300), tens(299)), 9, api.OK}, {q(true, nines(300), tens(299)), -10, api.OK},
		{q(false, "9223372036854775806", "1"), math.MaxInt - 1, api.OK}, {q(false, "9223372036854775807", "1"), math.MaxInt, api.OK},
		{q(false, "9223372036854775808", "1"), 0, api.ErrRange}, {q(false, "9223372036854775809", "1"), 0, api.ErrRange},
		{q(false, "18446744073709551615", "2"), math.MaxInt, api.OK}, {q(false, "18446744073709551617", "2"), 0, api.ErrRange},
		{q(false, "18446744073709551616", "1"), 0, api.ErrRange}, {q(false, "18446744073709551617", "1"), 0, api.ErrRange},
		{q(true, "9223372036854775807", "1"), math.MinInt + 1, api.OK}, {q(true, "9223372036854775808", "1"), math.MinInt, api.OK},
		{q(true, "9223372036854775809", "1"), 0, api.ErrRange}, {q(true, "18446744073709551615", "2"), math.MinInt, api.OK},
		{q(true, "18446744073709551617", "2"), 0, api.ErrRange}, {q(true, "18446744073709551613", "2"), math.MinInt + 1, api.OK},
		{q(true, "18446744073709551616", "1"), 0, api.ErrRange}, {q(true, "18446744073709551617", "1"), 0, api.ErrRange},
		{q(false, nines(300), "1"), 0, api.ErrRange}, {q(true, nines(300), "1"), 0, api.ErrRange}, {q(true, nines(300), "2"), 0, api.ErrRange},
	} {
		if n, err := Floor(test.r); n != test.want || err != test.err {
			t.Errorf("Floor(%s) is %d, %d", shown(test.r), n, err)
		}
	}
}

// floorOf returns the greatest integer that is not greater than a number.
func floorOf(v *big.Rat) *big.Int { return new(big.Int).Div(v.Num(), v.Denom()) }

// P5.1, E5 and P5.5: floors agree with another computation, for numbers of up to 300 digits, and there is none exactly outside of int.
func TestFloor(t *testing.T) {
	found, outside := 0, 0
	check := func(r api.Ratio) {
		n, err := Floor(r)
		want := floorOf(value(t, r))
		if !want.IsInt64() {
			outside++
			if n != 0 || err != api.ErrRange {
				t.Errorf("Floor(%s) is %d, %d", shown(r), n, err)
			}
			return
		}
		found++
		if n != int(want.Int64()) || err != api.OK {
			t.Errorf("Floor(%s) is %d, %d; it should be %d", shown(r), n, err, want)
		}
	}
	for _, r := range samples(300) {
		check(r)
	}
	for _, most := range []int{300, 60, 20, 2} {
		triples(most, func(a, b, c api.Ratio) {
			check(a)
			check(b)
			check(c)
		})
	}
	r := rand.New(rand.NewPCG(5, 5))
	for range 2000 {
		// These are near the limits of int, or near other integers.
		near := new(big.Rat).SetFrac(big.NewInt(int64(r.IntN(9)-4)), big.NewInt(int64(1+r.IntN(5))))
		limit := []int{math.MinInt, math.MaxInt, 0, r.Int()}[r.IntN(4)]
		check(form(near.Add(near, new(big.Rat).SetInt64(int64(limit)))))
	}
	if found < 1000 || outside < 1000 {
		t.Errorf("only %d floors are found, and %d are not", found, outside)
	}
}

// P5.5: with n as the floor, n is not greater than the number, and n + 1 is.
func TestFloorsAreBetweenIntegers(t *testing.T) {
	floors := 0
	for _, most := range []int{140, 19, 3} {
		triples(most, func(a, b, _ api.Ratio) {
			for _, r := range []api.Ratio{a, b} {
				n, err := Floor(r)
				if err != api.OK {
					continue
				}
				floors++
				low, _ := Of(n, 1)
				high, _ := Add(low, q(false, "1", "1"))
				if order, err := Compare(low, r); order > 0 || err != api.OK {
					t.Errorf("%s is less than its floor %d: %d, %d", shown(r), n, order, err)
				}
				if order, err := Compare(high, r); order != 1 || err != api.OK {
					t.Errorf("%s is not less than its floor %d and 1: %d, %d", shown(r), n, order, err)
				}
			}
		})
	}
	if floors < 1000 {
		t.Errorf("only %d floors are tested", floors)
	}
}

// P5.1, E6.
func TestTextsOfKnownNumbers(t *testing.T) {
	for _, test := range []struct {
		r    api.Ratio
		text string
	}{
		{q(false, "0", "1"), "0"}, {q(false, "1", "1"), "1"}, {q(true, "1", "1"), "-1"}, {q(false, "12", "1"), "12"}, {q(true, "12", "1"), "-12"},
		{q(false, "3", "2"), "3/2"}, {q(true, "3", "2"), "-3/2"}, {q(false, "1", "10"), "1/10"}, {q(true, "1", "11"), "-1/11"},
		{q(false, nines(300), "1"), nines(300)}, {q(true, nines(300), tens(299)), "-" + nines(300) + "/" + tens(299)}, {q(false, "1", nines(300)), "1/" + nines(300)},
	} {
		if s, err := Text(test.r); s != test.text || err != api.OK {
			t.Errorf("Text(%s) is %q, %d", shown(test.r), s, err)
		}
		if r, err := Parse(test.text); r != test.r || err != api.OK {
			t.Errorf("Parse(%q) is %s, %d", test.text, shown(r), err)
		}
	}
}

// P5.1, E6 and P5.4: Parse returns the number for its text, and different numbers have different texts.
func TestTextsBelongToNumbers(t *testing.T) {
	numbers := map[string]api.Ratio{}
	check := func(r api.Ratio) {
		text, err := Text(r)
		if err != api.OK || !isText(text) {
			t.Errorf("Text(%s) is %q, %d", shown(r), text, err)
		}
		if got, err := Parse(text); got != r || err != api.OK {
			t.Errorf("Parse(%q) is %s, %d", text, shown(got), err)
		}
		if other, known := numbers[text]; known && other != r {
			t.Errorf("%s and %s have the text %q", shown(r), shown(other), text)
		}
		numbers[text] = r
	}
	for _, r := range samples(300) {
		check(r)
	}
	for _, most := range []int{300, 20, 2} {
		triples(most, func(a, b, c api.Ratio) {
			check(a)
			check(b)
			check(c)
		})
	}
	if len(numbers) < 1000 {
		t.Errorf("only %d texts are tested", len(numbers))
	}
}

// accepted reports whether Parse accepts a text. It reports an error if this is not right, or if the text is not that of the result.
func accepted(t *testing.T, text string) bool {
	t.Helper()
	r, err := Parse(text)
	if !isText(text) {
		if r != (api.Ratio{}) || err != api.ErrSyntax {
			t.Errorf("Parse(%q) is %s, %d", text, shown(r), err)
		}
		return false
	}
	if err != api.OK || !Valid(r) {
		t.Errorf("Parse(%q) is %s, %d", text, shown(r), err)
	}
	if own, err := Text(r); own != text || err != api.OK {
		t.Errorf("Parse(%q) is %s, whose text is %q, %d", text, shown(r), own, err)
	}
	return true
}

// P5.1, E6 and P5.4: what is no text of a number has the error ErrSyntax.
func TestTextsOfNoNumber(t *testing.T) {
	l := []string{"", "-", "/", "-/", "--", "//", "0/1", "-0", "-0/1", "0/2", "-0/2", "0/0", "1/0", "-1/0", "1/1", "4/1", "-4/1", "2/2", "6/4", "-6/4", "4/2",
		"00", "01", "-01", "007", "00/1", "01/2", "1/02", "1/00", "+1", "+1/2", "1/+2", "1/-2", "-1/-2", "--1", "--1/2", "-+1", "+-1", "1-", "1-2", "1/2-", "-/2", "/2", "1/", "-1/",
		"1/2/3", "1//2", "/1/2", "1/2/", "1/2/1", "//2", " 1", "1 ", "- 1", "1 /2", "1/ 2", "1\n", "1/2\n", "\t1", "1\x00", "\x001", "1.5", "1,5", "1e2", "0x1", "1_0", "1:2", "1\\2", "1\u20442", "\u22121", "\u20131", "\u0661", "1/\uff12", "\xff", "-\xff", "\xbd", "\u00bd",
		nines(301), "-" + nines(301), "1/" + nines(301), nines(301) + "/2", "-1/" + tens(300), tens(300), nines(300) + "/" + nines(300), "0/" + nines(300), nines(300) + "/1", "1" + "/" + strings.Repeat("0", 300), nines(150) + "/" + nines(150) + "/" + nines(150)}
	for _, text := range l {
		if accepted(t, text) {
			t.Errorf("%q is expected to be no text", text)
		}
	}
}

// P5.4: all short texts of some characters, and texts of numbers in which one byte is changed, left out or put in.
func TestTextsThatAreParsed(t *testing.T) {
	right, wrong := 0, 0
	check := func(text string) {
		if accepted(t, text) {
			right++
		} else {
			wrong++
		}
	}
	var extend func(text string, more int)
	extend = func(text string, more int) {
		check(text)
		for _, c := range "-/0124+" {
			if more > 0 {
				extend(text+string(c), more-1)
			}
		}
	}
	extend("", 5)
	for c := range 256 {
		one := string([]byte{byte(c)})
		for _, text := range []string{one, one + "7", "7" + one, "7" + one + "7", "-" + one, "-7" + one, "3/" + one, "3/7" + one, "3" + one + "/7", one + "3/7"} {
			check(text)
		}
	}
	r := rand.New(rand.NewPCG(5, 6))
	for range 3000 {
		text, _ := Text(fraction(r, 1+r.IntN(20)))
		at, c := r.IntN(len(text)), string("-/0123456789 +"[r.IntN(14)])
		check(text)
		check(text[:at] + text[at+1:])
		check(text[:at] + c + text[at:])
		check(text[:at] + c + text[at+1:])
	}
	if right < 1000 || wrong < 1000 {
		t.Errorf("only %d texts are accepted, and %d are not", right, wrong)
	}
}

// P5.1, E6 and E3: texts with 300 and 301 digits in Num, in Den and in both.
func TestTheLimitOfTexts(t *testing.T) {
	for num := 298; num <= 303; num++ {
		for den := 298; den <= 303; den++ {
			for _, sign := range []string{"", "-"} {
				// What ends in 1 and a power of ten have no common divisor.
				text := sign + nines(num-1) + "1/" + tens(den-1)
				if accepted(t, text) != (num <= 300 && den <= 300) {
					t.Errorf("a text with %d digits, and %d, is accepted, or not", num, den)
				}
				if accepted(t, sign+nines(num)) != (num <= 300) {
					t.Errorf("a text with %d digits is accepted, or not", num)
				}
			}
		}
	}
}

// must returns what a function makes of two numbers for which there is no error.
func must(t *testing.T, call func(a, b api.Ratio) (api.Ratio, api.Errno), a, b api.Ratio) api.Ratio {
	t.Helper()
	r, err := call(a, b)
	if err != api.OK {
		t.Fatalf("the operation on %s and %s has the error %d", shown(a), shown(b), err)
	}
	return r
}

// P5.2.
func TestField(t *testing.T) {
	for _, most := range []int{60, 25, 2} {
		triples(most, func(a, b, c api.Ratio) {
			add := func(a, b api.Ratio) api.Ratio { return must(t, Add, a, b) }
			sub := func(a, b api.Ratio) api.Ratio { return must(t, Sub, a, b) }
			mul := func(a, b api.Ratio) api.Ratio { return must(t, Mul, a, b) }
			for _, law := range []struct {
				name string
				x, y api.Ratio
			}{
				{"a + b = b + a", add(a, b), add(b, a)},
				{"a * b = b * a", mul(a, b), mul(b, a)},
				{"(a + b) + c = a + (b + c)", add(add(a, b), c), add(a, add(b, c))},
				{"(a + b) + c = (c + a) + b", add(add(a, b), c), add(add(c, a), b)},
				{"(a * b) * c = a * (b * c)", mul(mul(a, b), c), mul(a, mul(b, c))},
				{"(a * b) * c = (c * a) * b", mul(mul(a, b), c), mul(mul(c, a), b)},
				{"a * (b + c) = a * b + a * c", mul(a, add(b, c)), add(mul(a, b), mul(a, c))},
				{"(a + b) * c = a * c + b * c", mul(add(a, b), c), add(mul(a, c), mul(b, c))},
				{"a - b + b = a", add(sub(a, b), b), a},
			} {
				if law.x != law.y {
					t.Errorf("%s: %s is not %s, for %s, %s and %s", law.name, shown(law.x), shown(law.y), shown(a), shown(b), shown(c))
				}
			}
			if b == q(false, "0", "1") {
				return
			}
			if back := mul(must(t, Div, a, b), b); back != a {
				t.Errorf("%s / %s * %s is %s", shown(a), shown(b), shown(b), shown(back))
			}
		})
	}
}

// ordered returns the order of two valid numbers of at most 140 digits.
func ordered(t *testing.T, a, b api.Ratio) int {
	t.Helper()
	order, err := Compare(a, b)
	if err != api.OK || order < -1 || order > 1 {
		t.Errorf("Compare(%s, %s) is %d, %d", shown(a), shown(b), order, err)
	}
	return order
}

// P5.3: Compare is a total order.
func TestCompareIsATotalOrder(t *testing.T) {
	for _, most := range []int{140, 30, 1} {
		triples(most, func(a, b, c api.Ratio) {
			if ordered(t, a, a) != 0 {
				t.Errorf("%s is not equal to itself", shown(a))
			}
			if (ordered(t, a, b) == 0) != (a == b) {
				t.Errorf("%s and %s are equal, or not", shown(a), shown(b))
			}
			if ordered(t, a, b) != -ordered(t, b, a) {
				t.Errorf("the order of %s and %s depends on which comes first", shown(a), shown(b))
			}
			if ordered(t, a, b) <= 0 && ordered(t, b, c) <= 0 && ordered(t, a, c) > 0 {
				t.Errorf("%s, %s and %s are in a circle", shown(a), shown(b), shown(c))
			}
		})
	}
}

// P5.3: sums with a third number, and products with a positive one, are ordered as the numbers are.
func TestOrderOfSumsAndProducts(t *testing.T) {
	compared := 0
	for _, most := range []int{70, 60, 20, 2} {
		triples(most, func(a, b, c api.Ratio) {
			order := ordered(t, a, b)
			for _, f := range functions() {
				positive := !c.Neg && c.Num != "0"
				if (f.name == "Mul" || f.name == "Div") && !positive {
					continue
				}
				x, errX := f.call(a, c)
				y, errY := f.call(b, c)
				if errX != api.OK || errY != api.OK {
					t.Fatalf("%s of %s and %s has the errors %d and %d", f.name, shown(a), shown(c), errX, errY)
				}
				got, err := Compare(x, y)
				if err == api.ErrLimit {
					continue
				}
				compared++
				if got != order || err != api.OK {
					t.Errorf("after %s with %s the order of %s and %s is %d, %d", f.name, shown(c), shown(a), shown(b), got, err)
				}
			}
		})
	}
	if compared < 10000 {
		t.Errorf("only %d orders are compared", compared)
	}
}

// P1: all functions end for long texts, and for what is no text.
func TestLongArguments(t *testing.T) {
	for _, s := range []string{strings.Repeat("1", 1<<20), strings.Repeat("0", 1<<20), strings.Repeat("-", 1<<20), strings.Repeat("/", 1<<20), strings.Repeat("1/", 1<<19), strings.Repeat("\xff", 1<<20)} {
		for _, r := range []api.Ratio{q(false, s, "1"), q(true, "1", s), q(false, s, s)} {
			if Valid(r) {
				t.Errorf("Valid(%s) is true", shown(r))
			}
			if got, err := Make(r.Neg, r.Num, r.Den); got != (api.Ratio{}) || err != api.ErrArg {
				t.Errorf("Make of %s is %s, %d", shown(r), shown(got), err)
			}
			refused(t, r, q(false, "0", "1"), api.ErrArg, api.ErrArg)
			refused(t, q(false, nines(200), "1"), r, api.ErrArg, api.ErrArg)
		}
		if r, err := Parse(s); r != (api.Ratio{}) || err != api.ErrSyntax {
			t.Errorf("Parse of %s is %s, %d", s[:3], shown(r), err)
		}
	}
}

// everything returns all that the functions tell about two numbers.
func everything(a, b api.Ratio) []any {
	made, err := Make(a.Neg, a.Num, a.Den)
	n, errFloor := Floor(a)
	text, errText := Text(a)
	parsed, errParse := Parse(a.Num + "/" + a.Den)
	of, errOf := Of(n, len(b.Num))
	order, errOrder := Compare(a, b)
	l := []any{Valid(a), made, err, n, errFloor, text, errText, parsed, errParse, of, errOf, order, errOrder}
	for _, f := range functions() {
		r, err := f.call(a, b)
		l = append(l, r, err)
	}
	return l
}

// P3.
func TestEqualArgumentsYieldEqualResults(t *testing.T) {
	numbers := append(samples(300), invalid()...)
	last := len(numbers) - 1
	again := func(r api.Ratio) api.Ratio { return q(r.Neg, strings.Clone(r.Num), strings.Clone(r.Den)) }
	var first [][]any
	for i, a := range numbers {
		first = append(first, everything(a, numbers[last-i]))
	}
	for i := last; i >= 0; i-- {
		if !slices.Equal(first[i], everything(again(numbers[i]), again(numbers[last-i]))) {
			t.Errorf("%s and %s yield other results", shown(numbers[i]), shown(numbers[last-i]))
		}
	}
}
