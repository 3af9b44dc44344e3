package money_test

import (
	"math"
	"math/big"
	"math/rand/v2"
	"regexp"
	"slices"
	"strconv"
	"strings"
	"testing"

	"customhouse/api"
	"customhouse/money"
	"customhouse/ratio"
)

const (
	maxUnits = 1000000000000 // the greatest Units of an amount
	base     = "EUR"         // the base currency of most tests
)

// rate returns a rate.
func rate(currency string, day, num, den int) api.Rate {
	return api.Rate{Currency: currency, Day: day, Num: num, Den: den}
}

// amount returns an amount.
func amount(currency string, units int) api.Amount {
	return api.Amount{Currency: currency, Units: units}
}

// q returns a rational number, which may be not valid.
func q(neg bool, num, den string) api.Ratio { return api.Ratio{Neg: neg, Num: num, Den: den} }

// nines returns the digits of one less than a power of ten.
func nines(n int) string { return strings.Repeat("9", n) }

// tens returns the digits of a power of ten.
func tens(n int) string { return "1" + strings.Repeat("0", n) }

// bigOf returns the value of digits.
func bigOf(digits string) *big.Int {
	n, _ := new(big.Int).SetString(digits, 10)
	return n
}

// form returns the valid number with a value.
func form(v *big.Rat) api.Ratio {
	return q(v.Sign() < 0, new(big.Int).Abs(v.Num()).String(), v.Denom().String())
}

// value returns the value of a valid number.
func value(r api.Ratio) *big.Rat {
	v := new(big.Rat).SetFrac(bigOf(r.Num), bigOf(r.Den))
	if r.Neg {
		v.Neg(v)
	}
	return v
}

// examples are the rates of the chapter's examples.
func examples() []api.Rate {
	return []api.Rate{rate("USD", 0, 9, 10), rate("USD", 10, 4, 5), rate("CHF", 0, 1, 1)}
}

// several are rates in no order: at the limits of days and of numbers, of currencies whose names begin alike, and of one that has its first rate late.
func several() []api.Rate {
	return []api.Rate{
		rate("USD", 10, 4, 5), rate("u", 100000, 1000000, 1), rate("USD", 0, 9, 10), rate("US", 5, 7, 3), rate("CHF", 3, 1, 1),
		rate("USD", 11, 1000000, 999999), rate("usd", 4, 2, 9), rate("USD", 100000, 1, 1000000), rate("late", 99999, 6, 35), rate("USD_", 0, 1000000, 1),
		rate("CHF", 2, 13, 17), rate("US", 40, 3, 7), rate("Eur", 0, 22, 21), rate("US", 6, 1, 1000000), rate("EURO", 9, 10, 11),
	}
}

// many are n rates of some currencies from different days on.
func many(n int) []api.Rate {
	var l []api.Rate
	for i := range n {
		l = append(l, rate("c"+strconv.Itoa(i%7), 100000-13*i, 1+i*7919%1000000, 1000000-i*104729%1000000))
	}
	return l
}

// shuffled returns rates in another order.
func shuffled(r *rand.Rand, l []api.Rate) []api.Rate {
	l = slices.Clone(l)
	r.Shuffle(len(l), func(i, j int) { l[i], l[j] = l[j], l[i] })
	return l
}

// someRates returns a few rates of currencies and days that are often the same, or allowed only just, or not.
func someRates(r *rand.Rand, wrong bool) []api.Rate {
	currencies := []string{"USD", "CHF", "x", "US"}
	days := []int{0, 1, 2, 3, 7, 8, 99999, 100000}
	numbers := []int{1, 2, 3, 5, 7, 10, 999999, 1000000}
	if wrong {
		currencies = append(currencies, "EUR", "", "1x", "a b")
		days = append(days, -1, 100001)
		numbers = append(numbers, 0, -1, 1000001)
	}
	var l []api.Rate
	for range r.IntN(9) {
		x := rate(pick(r, currencies), pick(r, days), pick(r, numbers), pick(r, numbers))
		twice := slices.ContainsFunc(l, func(y api.Rate) bool { return x.Currency == y.Currency && x.Day == y.Day })
		if wrong || !twice {
			l = append(l, x)
		}
	}
	return l
}

// pick returns an element of a list.
func pick[T any](r *rand.Rand, l []T) T { return l[r.IntN(len(l))] }

var identifier = regexp.MustCompile(`\A[A-Za-z][A-Za-z0-9_]{0,23}\z`)

// isValid says what Valid should, by comparing all rates.
func isValid(l []api.Rate, base string) bool {
	if !identifier.MatchString(base) || len(l) > 400 {
		return false
	}
	for i, x := range l {
		if !identifier.MatchString(x.Currency) || x.Currency == base || x.Day < 0 || x.Day > 100000 {
			return false
		}
		if x.Num < 1 || x.Num > 1000000 || x.Den < 1 || x.Den > 1000000 {
			return false
		}
		for _, y := range l[:i] {
			if x.Currency == y.Currency && x.Day == y.Day {
				return false
			}
		}
	}
	return true
}

// found says what Find should, by looking at all days back to the first one on which there is a rate.
func found(l []api.Rate, base, currency string, day int) (api.Rate, api.Errno) {
	if !isValid(l, base) || !identifier.MatchString(currency) || day < 0 || day > 100000 {
		return api.Rate{}, api.ErrArg
	}
	if currency == base {
		return rate(base, 0, 1, 1), api.OK
	}
	days := map[int]api.Rate{}
	for _, x := range l {
		if x.Currency == currency {
			days[x.Day] = x
		}
	}
	for ; day >= 0 && len(days) > 0; day-- {
		if x, ok := days[day]; ok {
			return x, api.OK
		}
	}
	return api.Rate{}, api.ErrNone
}

// converted says what Convert should, with big numbers.
func converted(l []api.Rate, base string, a api.Amount, to string, day int) (api.Ratio, api.Errno) {
	if !identifier.MatchString(a.Currency) || a.Units > maxUnits || a.Units < -maxUnits {
		return api.Ratio{}, api.ErrArg
	}
	from, err := found(l, base, a.Currency, day)
	if err != api.OK {
		return api.Ratio{}, err
	}
	into, err := found(l, base, to, day)
	if err != api.OK {
		return api.Ratio{}, err
	}
	v := big.NewRat(int64(a.Units), 1)
	v.Mul(v, big.NewRat(int64(from.Num), int64(from.Den)))
	return form(v.Mul(v, big.NewRat(int64(into.Den), int64(into.Num)))), api.OK
}

// check reports where Find or Convert differs from what it should say.
func check(t *testing.T, l []api.Rate, base string, a api.Amount, to string, day int) {
	t.Helper()
	if ok := money.Valid(l, base); ok != isValid(l, base) {
		t.Fatalf("Valid(%v, %q) is %v", l, base, ok)
	}
	want, wantErr := found(l, base, to, day)
	if x, err := money.Find(l, base, to, day); x != want || err != wantErr {
		t.Fatalf("Find(%v, %q, %q, %d) is %v, %d; it should be %v, %d", l, base, to, day, x, err, want, wantErr)
	}
	sum, sumErr := converted(l, base, a, to, day)
	if x, err := money.Convert(l, base, a, to, day); x != sum || err != sumErr {
		t.Fatalf("Convert(%v, %q, %v, %q, %d) is %v, %d; it should be %v, %d", l, base, a, to, day, x, err, sum, sumErr)
	}
}

// convert returns a conversion that has no error.
func convert(t *testing.T, l []api.Rate, a api.Amount, to string, day int) api.Ratio {
	t.Helper()
	x, err := money.Convert(l, base, a, to, day)
	if err != api.OK {
		t.Fatalf("Convert of %v to %s on day %d has the error %d", a, to, day, err)
	}
	return x
}

// units are numbers of units: the least, the greatest and the ones next to them, and some between.
func units() []int {
	return []int{-maxUnits, -maxUnits + 1, -999999999989, -1000001, -10, -7, -2, -1, 0, 1, 2, 3, 10, 100, 1000000, 123456789012, maxUnits - 1, maxUnits}
}

// identifiers and otherTexts are texts that are currencies, and that are none.
func identifiers() []string {
	return []string{"a", "z", "A", "Z", "USD", "usd", "a0", "a9", "a_", "x_1_Y", "a__", strings.Repeat("q", 23), strings.Repeat("Z", 24), "a" + strings.Repeat("_", 23), "b" + strings.Repeat("7", 23)}
}

func otherTexts() []string {
	return []string{"", " ", "_", "_a", "0", "9", "1a", "12", "-", "-1", "a b", " a", "a ", "a-b", "a.b", "a/b", "a:b", "a\n", "\na", "a\x00", "\x00",
		"\u00e4", "a\u00e4", "\u0430", "\uff21", "a\u0661", "\xff", "a\xff", "@", "[", "`", "{", "a@", "a[", "a`", "a{", "a/", "a:", "\u20ac",
		strings.Repeat("a", 25), "b" + strings.Repeat("_", 24), strings.Repeat("Z", 26), strings.Repeat("a", 48), strings.Repeat("a", 300), strings.Repeat("a", 23) + " ", strings.Repeat("\u00e4", 12)}
}

// P8.1: the chapter's examples.
func TestExamples(t *testing.T) {
	l := examples()
	for _, test := range []struct {
		a    api.Amount
		to   string
		day  int
		want api.Ratio
	}{
		{amount("USD", 100), "EUR", 9, q(false, "90", "1")},
		{amount("USD", 100), "EUR", 10, q(false, "80", "1")},
		{amount("EUR", 10), "USD", 10, q(false, "25", "2")},
		{amount("CHF", 9), "USD", 0, q(false, "10", "1")},
	} {
		if x, err := money.Convert(l, base, test.a, test.to, test.day); x != test.want || err != api.OK {
			t.Errorf("Convert of %v to %s on day %d is %v, %d", test.a, test.to, test.day, x, err)
		}
	}
	if x, err := money.Find(l, base, "GBP", 0); x != (api.Rate{}) || err != api.ErrNone {
		t.Errorf("Find of GBP is %v, %d", x, err)
	}
	for text, want := range map[string]int{"5/2": 2, "7/2": 4, "-5/2": -2} {
		r, _ := ratio.Parse(text)
		if n, err := money.Round(r); n != want || err != api.OK {
			t.Errorf("Round of %s is %d, %d", text, n, err)
		}
	}
	if x, err := money.Split(10, []int{1, 1, 1}); !slices.Equal(x, []int{4, 3, 3}) || err != api.OK {
		t.Errorf("Split of 10 by 1, 1, 1 is %v, %d", x, err)
	}
	if x, err := money.Split(7, []int{0, 2, 1}); !slices.Equal(x, []int{0, 5, 2}) || err != api.OK {
		t.Errorf("Split of 7 by 0, 2, 1 is %v, %d", x, err)
	}
}

// P8.1, H1: the limits of a rate, and what is beyond them.
func TestValidOfOneRate(t *testing.T) {
	for _, test := range []struct {
		x    api.Rate
		want bool
	}{
		{rate("USD", 0, 1, 1), true}, {rate("USD", 100000, 1, 1), true}, {rate("USD", 1, 1000000, 1), true}, {rate("USD", 1, 1, 1000000), true}, {rate("USD", 100000, 1000000, 1000000), true},
		{rate("USD", -1, 1, 1), false}, {rate("USD", 100001, 1, 1), false}, {rate("USD", math.MinInt, 1, 1), false}, {rate("USD", math.MaxInt, 1, 1), false},
		{rate("USD", 0, 0, 1), false}, {rate("USD", 0, -1, 1), false}, {rate("USD", 0, 1000001, 1), false}, {rate("USD", 0, math.MinInt, 1), false}, {rate("USD", 0, math.MaxInt, 1), false},
		{rate("USD", 0, 1, 0), false}, {rate("USD", 0, 1, -1), false}, {rate("USD", 0, 1, 1000001), false}, {rate("USD", 0, 1, math.MinInt), false}, {rate("USD", 0, 1, math.MaxInt), false},
		{rate("USD", 0, -1, -1), false}, {rate("USD", 0, 0, 0), false}, {api.Rate{}, false}, {rate("", 0, 1, 1), false},
		{rate("EUR", 0, 1, 1), false}, {rate("EUR", 3, 1, 1), false}, {rate("EUR", 100000, 2, 3), false}, {rate("eur", 0, 1, 1), true}, {rate("EU", 0, 1, 1), true}, {rate("EURO", 0, 1, 1), true},
	} {
		alone, first, last := []api.Rate{test.x}, append([]api.Rate{test.x}, rate("CHF", 0, 1, 1)), []api.Rate{rate("CHF", 0, 1, 1), rate("CHF", 5, 1, 2), test.x}
		for _, l := range [][]api.Rate{alone, first, last} {
			if ok := money.Valid(l, base); ok != test.want || ok != isValid(l, base) {
				t.Errorf("Valid(%v, EUR) is %v", l, ok)
			}
		}
	}
}

// P8.1, H1: no rates, 400 and 401 rates, each of which is valid.
func TestTheNumberOfRates(t *testing.T) {
	for _, n := range []int{0, 1, 2, 399, 400} {
		if l := many(n); !money.Valid(l, base) {
			t.Errorf("%d rates are not valid", n)
		}
	}
	if !money.Valid(nil, base) || !money.Valid([]api.Rate{}, base) {
		t.Error("no rates are not valid")
	}
	for _, n := range []int{401, 402, 800, 5000} {
		l := many(n)
		for i := range l {
			l[i].Day = i
		}
		if money.Valid(l, base) {
			t.Errorf("%d rates are valid", n)
		}
		if x, err := money.Find(l, base, "c0", 7); x != (api.Rate{}) || err != api.ErrArg {
			t.Errorf("Find in %d rates is %v, %d", n, x, err)
		}
		if x, err := money.Convert(l, base, amount("c0", 7), base, 7); x != (api.Ratio{}) || err != api.ErrArg {
			t.Errorf("Convert by %d rates is %v, %d", n, x, err)
		}
	}
	l := many(400)
	for _, x := range l {
		if y, err := money.Find(l, base, x.Currency, x.Day); y != x || err != api.OK {
			t.Fatalf("Find(%q, %d) in 400 rates is %v, %d", x.Currency, x.Day, y, err)
		}
	}
}

// P8.1, H1: the same Currency and Day twice, at any two places of the list, with the same numbers and with others. The same Currency or the same Day alone is allowed.
func TestRatesThatAreThereTwice(t *testing.T) {
	for _, n := range []int{2, 3, 9} {
		for i := range n {
			for j := range n {
				if i == j {
					continue
				}
				l := many(n)
				l[i].Currency = l[j].Currency
				if !money.Valid(l, base) {
					t.Fatalf("%v is not valid", l)
				}
				l[i].Day = l[j].Day
				if money.Valid(l, base) {
					t.Fatalf("%v is valid", l)
				}
				l[i] = l[j]
				if money.Valid(l, base) {
					t.Fatalf("%v is valid", l)
				}
				l[i].Currency = "other"
				if !money.Valid(l, base) {
					t.Fatalf("%v is not valid", l)
				}
			}
		}
	}
	for i := range 399 {
		l := many(400)
		l[i].Currency, l[i].Day = l[399].Currency, l[399].Day
		if money.Valid(l, base) {
			t.Fatalf("400 rates are valid though two are of %s and of day %d", l[i].Currency, l[i].Day)
		}
	}
}

// P8.1, H1: a rate that is not allowed, at each place among others.
func TestRatesOfWhichOneIsNotAllowed(t *testing.T) {
	for i := range several() {
		for _, x := range []api.Rate{rate("EUR", 0, 1, 1), rate("EUR", 7, 3, 2), rate("", 7, 1, 1), rate("2a", 7, 1, 1), rate("new", -1, 1, 1), rate("new", 100001, 1, 1), rate("new", 7, 0, 1), rate("new", 7, 1, 1000001), {}} {
			l := several()
			l[i] = x
			if money.Valid(l, base) {
				t.Errorf("%v is valid", l)
			}
			for _, currency := range []string{base, "USD", "nobody"} {
				if y, err := money.Find(l, base, currency, 20); y != (api.Rate{}) || err != api.ErrArg {
					t.Errorf("Find of %s in %v is %v, %d", currency, l, y, err)
				}
				if y, err := money.Convert(l, base, amount(currency, 1), currency, 20); y != (api.Ratio{}) || err != api.ErrArg {
					t.Errorf("Convert of %s by %v is %v, %d", currency, l, y, err)
				}
			}
		}
	}
}

// P8.1: what is a currency, for every function that takes one.
func TestCurrencies(t *testing.T) {
	for _, s := range identifiers() {
		if !money.Valid(nil, s) || !money.Valid([]api.Rate{rate(s, 0, 1, 1)}, "other") {
			t.Errorf("%q is no currency for Valid", s)
		}
		if x, err := money.Find(nil, s, s, 5); x != rate(s, 0, 1, 1) || err != api.OK {
			t.Errorf("Find(nil, %q, %q, 5) is %v, %d", s, s, x, err)
		}
		if x, err := money.Find(nil, "other", s, 5); x != (api.Rate{}) || err != api.ErrNone {
			t.Errorf("Find(nil, other, %q, 5) is %v, %d", s, x, err)
		}
		if x, err := money.Convert(nil, s, amount(s, 5), s, 5); x != q(false, "5", "1") || err != api.OK {
			t.Errorf("Convert of %q is %v, %d", s, x, err)
		}
		if text, err := money.Text(amount(s, -5)); text != s+" -5" || err != api.OK {
			t.Errorf("Text of %q is %q, %d", s, text, err)
		}
		if a, err := money.Parse(s + " -5"); a != amount(s, -5) || err != api.OK {
			t.Errorf("Parse of %q is %v, %d", s, a, err)
		}
	}
	for _, s := range otherTexts() {
		if money.Valid(nil, s) || money.Valid([]api.Rate{rate(s, 0, 1, 1)}, "other") {
			t.Errorf("%q is a currency for Valid", s)
		}
		for _, b := range []string{s, "other"} {
			for _, currency := range []string{s, "other"} {
				if b == "other" && currency == "other" {
					continue
				}
				if x, err := money.Find(nil, b, currency, 5); x != (api.Rate{}) || err != api.ErrArg {
					t.Errorf("Find(nil, %q, %q, 5) is %v, %d", b, currency, x, err)
				}
				if x, err := money.Convert(nil, b, amount("other", 5), currency, 5); x != (api.Ratio{}) || err != api.ErrArg {
					t.Errorf("Convert by %q to %q is %v, %d", b, currency, x, err)
				}
				if x, err := money.Convert(nil, b, amount(currency, 5), "other", 5); x != (api.Ratio{}) || err != api.ErrArg {
					t.Errorf("Convert by %q of %q is %v, %d", b, currency, x, err)
				}
			}
		}
		if text, err := money.Text(amount(s, 5)); text != "" || err != api.ErrArg {
			t.Errorf("Text of %q is %q, %d", s, text, err)
		}
		if a, err := money.Parse(s + " 5"); a != (api.Amount{}) || err != api.ErrSyntax {
			t.Errorf("Parse of %q is %v, %d", s+" 5", a, err)
		}
	}
}

// P8.1: each byte as the first one of a currency, and at other places.
func TestBytesOfCurrencies(t *testing.T) {
	for c := range 256 {
		for _, n := range []int{1, 2, 3, 24, 25} {
			for _, i := range []int{0, 1, n / 2, n - 1} {
				text := []byte(strings.Repeat("k", n))
				text[min(i, n-1)] = byte(c)
				s := string(text)
				want := identifier.MatchString(s)
				if ok := money.Valid(nil, s); ok != want {
					t.Errorf("Valid(nil, %q) is %v", s, ok)
				}
				if ok := money.Valid([]api.Rate{rate(s, 0, 1, 1)}, "base"); ok != want {
					t.Errorf("a rate of %q is valid: %v", s, ok)
				}
				if _, err := money.Find(nil, "base", s, 0); (err == api.ErrNone) != want {
					t.Errorf("Find of %q has the error %d", s, err)
				}
				if _, err := money.Text(amount(s, 0)); (err == api.OK) != want {
					t.Errorf("Text of %q has the error %d", s, err)
				}
			}
		}
	}
}

// P8.1, H2: days before the first rate of a currency, on the day of a rate, between two, and after the last one.
func TestFindOfKnownDays(t *testing.T) {
	none := api.Rate{}
	for _, test := range []struct {
		currency string
		day      int
		want     api.Rate
		err      api.Errno
	}{
		{"USD", 0, rate("USD", 0, 9, 10), api.OK}, {"USD", 1, rate("USD", 0, 9, 10), api.OK}, {"USD", 9, rate("USD", 0, 9, 10), api.OK},
		{"USD", 10, rate("USD", 10, 4, 5), api.OK}, {"USD", 11, rate("USD", 11, 1000000, 999999), api.OK}, {"USD", 12, rate("USD", 11, 1000000, 999999), api.OK},
		{"USD", 99999, rate("USD", 11, 1000000, 999999), api.OK}, {"USD", 100000, rate("USD", 100000, 1, 1000000), api.OK},
		{"US", 0, none, api.ErrNone}, {"US", 4, none, api.ErrNone}, {"US", 5, rate("US", 5, 7, 3), api.OK}, {"US", 6, rate("US", 6, 1, 1000000), api.OK},
		{"US", 39, rate("US", 6, 1, 1000000), api.OK}, {"US", 40, rate("US", 40, 3, 7), api.OK}, {"US", 100000, rate("US", 40, 3, 7), api.OK},
		{"CHF", 1, none, api.ErrNone}, {"CHF", 2, rate("CHF", 2, 13, 17), api.OK}, {"CHF", 3, rate("CHF", 3, 1, 1), api.OK}, {"CHF", 4, rate("CHF", 3, 1, 1), api.OK},
		{"u", 0, none, api.ErrNone}, {"u", 99999, none, api.ErrNone}, {"u", 100000, rate("u", 100000, 1000000, 1), api.OK},
		{"late", 99998, none, api.ErrNone}, {"late", 99999, rate("late", 99999, 6, 35), api.OK}, {"late", 100000, rate("late", 99999, 6, 35), api.OK},
		{"usd", 3, none, api.ErrNone}, {"usd", 4, rate("usd", 4, 2, 9), api.OK}, {"USD_", 100000, rate("USD_", 0, 1000000, 1), api.OK},
		{"EUR", 0, rate("EUR", 0, 1, 1), api.OK}, {"EUR", 10, rate("EUR", 0, 1, 1), api.OK}, {"EUR", 100000, rate("EUR", 0, 1, 1), api.OK},
		{"Eur", 0, rate("Eur", 0, 22, 21), api.OK}, {"EURO", 8, none, api.ErrNone}, {"EURO", 9, rate("EURO", 9, 10, 11), api.OK},
		{"EU", 9, none, api.ErrNone}, {"GBP", 0, none, api.ErrNone}, {"GBP", 100000, none, api.ErrNone}, {"U", 100000, none, api.ErrNone},
		{"USD", -1, none, api.ErrArg}, {"USD", 100001, none, api.ErrArg}, {"USD", math.MinInt, none, api.ErrArg}, {"USD", math.MaxInt, none, api.ErrArg},
		{"EUR", -1, none, api.ErrArg}, {"EUR", 100001, none, api.ErrArg}, {"GBP", -1, none, api.ErrArg}, {"GBP", 100001, none, api.ErrArg},
		{"", 0, none, api.ErrArg}, {"", -1, none, api.ErrArg}, {"G P", 0, none, api.ErrArg},
	} {
		if x, err := money.Find(several(), base, test.currency, test.day); x != test.want || err != test.err {
			t.Errorf("Find of %q on day %d is %v, %d", test.currency, test.day, x, err)
		}
	}
}

// P8.1, H2: the base currency without other rates, and with many of them.
func TestFindOfTheBase(t *testing.T) {
	for _, l := range [][]api.Rate{nil, {}, examples(), several(), many(400)} {
		for _, b := range []string{"EUR", "e", strings.Repeat("B", 24)} {
			for _, day := range []int{0, 1, 10, 99999, 100000} {
				if x, err := money.Find(l, b, b, day); x != rate(b, 0, 1, 1) || err != api.OK {
					t.Errorf("Find of the base %s on day %d is %v, %d", b, day, x, err)
				}
			}
		}
	}
}

// P8.1, H1 to H3: rates that are often wrong agree with another computation.
func TestRatesAgreeWithAnotherComputation(t *testing.T) {
	r := rand.New(rand.NewPCG(8, 1))
	currencies := []string{"EUR", "USD", "CHF", "x", "US", "GBP", "", "a b"}
	days := []int{-1, 0, 1, 2, 3, 4, 7, 8, 9, 500, 99999, 100000, 100001}
	sums := append(units(), -maxUnits-1, maxUnits+1, math.MinInt, math.MaxInt)
	for i := range 30000 {
		l := someRates(r, i%4 == 0)
		check(t, l, pick(r, []string{"EUR", "EUR", "EUR", "GBP", "1"}), amount(pick(r, currencies), pick(r, sums)), pick(r, currencies), pick(r, days))
	}
	for range 300 {
		l := shuffled(r, many(400))
		check(t, l, base, amount(pick(r, l).Currency, pick(r, units())), pick(r, l).Currency, 100000-r.IntN(5300))
	}
}

// P8.1, H3: rates and units at their limits, and conversions without change.
func TestConvertOfKnownAmounts(t *testing.T) {
	l := []api.Rate{rate("most", 0, 1000000, 1), rate("least", 0, 1, 1000000), rate("odd", 0, 999983, 999979), rate("late", 100000, 3, 7)}
	for _, test := range []struct {
		a    api.Amount
		to   string
		day  int
		want api.Ratio
		err  api.Errno
	}{
		{amount("most", maxUnits), "least", 0, q(false, tens(24), "1"), api.OK},
		{amount("most", -maxUnits), "least", 0, q(true, tens(24), "1"), api.OK},
		{amount("least", maxUnits), "most", 0, q(false, "1", "1"), api.OK},
		{amount("least", -1), "most", 0, q(true, "1", tens(12)), api.OK},
		{amount("least", -maxUnits), "EUR", 0, q(true, "1000000", "1"), api.OK},
		{amount("most", maxUnits), "EUR", 0, q(false, tens(18), "1"), api.OK},
		{amount("EUR", maxUnits), "most", 0, q(false, "1000000", "1"), api.OK},
		{amount("EUR", -maxUnits), "least", 0, q(true, tens(18), "1"), api.OK},
		{amount("odd", maxUnits), "EUR", 0, q(false, "999983000000000000", "999979"), api.OK},
		{amount("odd", 999979), "least", 0, q(false, "999983000000", "1"), api.OK},
		{amount("EUR", 1), "odd", 0, q(false, "999979", "999983"), api.OK},
		{amount("most", 0), "least", 0, q(false, "0", "1"), api.OK},
		{amount("odd", 0), "odd", 100000, q(false, "0", "1"), api.OK},
		{amount("EUR", maxUnits), "EUR", 100000, q(false, tens(12), "1"), api.OK},
		{amount("EUR", -7), "EUR", 0, q(true, "7", "1"), api.OK},
		{amount("late", 7), "EUR", 100000, q(false, "3", "1"), api.OK},
		{amount("EUR", 1), "late", 100000, q(false, "7", "3"), api.OK},
		{amount("late", 7), "EUR", 99999, api.Ratio{}, api.ErrNone},
		{amount("EUR", 1), "late", 99999, api.Ratio{}, api.ErrNone},
		{amount("late", 7), "late", 99999, api.Ratio{}, api.ErrNone},
		{amount("GBP", 7), "GBP", 0, api.Ratio{}, api.ErrNone},
		{amount("GBP", 0), "EUR", 0, api.Ratio{}, api.ErrNone},
		{amount("EUR", 0), "GBP", 0, api.Ratio{}, api.ErrNone},
	} {
		if x, err := money.Convert(l, base, test.a, test.to, test.day); x != test.want || err != test.err {
			t.Errorf("Convert of %v to %s on day %d is %v, %d", test.a, test.to, test.day, x, err)
		}
	}
}

// P8.1, H3, and P1: the errors in their order. Of two currencies without a rate, or that are none, the one of the amount comes first.
func TestErrorsOfConvert(t *testing.T) {
	wrong := append(examples(), rate("EUR", 0, 1, 1))
	for i, test := range []struct {
		l    []api.Rate
		base string
		a    api.Amount
		to   string
		day  int
		want api.Errno
	}{
		{examples(), base, amount("GBP", 1), "", 0, api.ErrNone}, {examples(), base, amount("GBP", 1), "a b", 0, api.ErrNone}, {examples(), base, amount("GBP", 1), "GBP", 0, api.ErrNone},
		{examples(), base, amount("EUR", 1), "", 0, api.ErrArg}, {examples(), base, amount("USD", 1), "9", 0, api.ErrArg}, {examples(), base, amount("USD", 1), "GBP", 0, api.ErrNone},
		{examples(), base, amount("", 1), "EUR", 0, api.ErrArg}, {examples(), base, amount("", 1), "GBP", 0, api.ErrArg}, {examples(), base, amount("a-b", 1), "", 0, api.ErrArg},
		{examples(), base, amount("GBP", maxUnits+1), "GBP", 0, api.ErrArg}, {examples(), base, amount("GBP", -maxUnits-1), "GBP", 0, api.ErrArg},
		{examples(), base, amount("USD", maxUnits+1), "EUR", 0, api.ErrArg}, {examples(), base, amount("USD", -maxUnits-1), "EUR", 0, api.ErrArg},
		{examples(), base, amount("EUR", maxUnits+1), "EUR", 0, api.ErrArg}, {examples(), base, amount("EUR", math.MinInt), "EUR", 0, api.ErrArg}, {examples(), base, amount("EUR", math.MaxInt), "USD", 0, api.ErrArg},
		{examples(), base, amount("USD", 1), "EUR", -1, api.ErrArg}, {examples(), base, amount("USD", 1), "EUR", 100001, api.ErrArg}, {examples(), base, amount("GBP", 1), "GBP", -1, api.ErrArg}, {examples(), base, amount("EUR", 0), "EUR", 100001, api.ErrArg},
		{examples(), "", amount("USD", 1), "CHF", 0, api.ErrArg}, {examples(), "E R", amount("GBP", 1), "CHF", 0, api.ErrArg}, {examples(), "USD", amount("CHF", 1), "CHF", 0, api.ErrArg},
		{wrong, base, amount("USD", 1), "CHF", 0, api.ErrArg}, {wrong, base, amount("GBP", 1), "CHF", 0, api.ErrArg}, {wrong, base, amount("EUR", 1), "EUR", 0, api.ErrArg}, {wrong, base, amount("EUR", 0), "GBP", 0, api.ErrArg},
		{nil, base, amount("USD", 1), "EUR", 0, api.ErrNone}, {nil, base, amount("EUR", 1), "USD", 0, api.ErrNone}, {nil, "", amount("USD", 1), "EUR", 0, api.ErrArg},
	} {
		if x, err := money.Convert(test.l, test.base, test.a, test.to, test.day); x != (api.Ratio{}) || err != test.want {
			t.Errorf("%d: Convert of %v to %q on day %d is %v, %d", i, test.a, test.to, test.day, x, err)
		}
	}
}

// P8.2: the conversion into the own currency is Units.
func TestConversionsIntoTheOwnCurrency(t *testing.T) {
	for _, currency := range []string{"EUR", "USD", "US", "CHF", "u", "usd", "late", "USD_"} {
		for _, n := range units() {
			want := form(big.NewRat(int64(n), 1))
			for _, day := range []int{99999, 100000, 12, 10, 5, 0} {
				x, err := money.Convert(several(), base, amount(currency, n), currency, day)
				if _, missing := found(several(), base, currency, day); missing == api.OK && (x != want || err != api.OK) {
					t.Errorf("Convert of %d %s on day %d into %s is %v, %d", n, currency, day, currency, x, err)
				}
			}
		}
	}
}

// P8.2: conversions into the base currency and on into a third one multiply to the direct one.
func TestConversionsThroughTheBase(t *testing.T) {
	currencies := []string{"EUR", "USD", "US", "CHF", "u", "usd", "late", "USD_", "Eur", "EURO"}
	for _, l := range [][]api.Rate{several(), append(several(), many(300)...)} {
		for _, from := range currencies {
			for _, to := range currencies {
				for _, n := range units() {
					direct := convert(t, l, amount(from, n), to, 100000)
					product, err := ratio.Mul(convert(t, l, amount(from, n), base, 100000), convert(t, l, amount(base, 1), to, 100000))
					if product != direct || err != api.OK {
						t.Fatalf("%d %s are worth %v %s, but through the base %v, %d", n, from, direct, to, product, err)
					}
				}
			}
		}
	}
	r := rand.New(rand.NewPCG(8, 2))
	for range 3000 {
		l := someRates(r, false)
		a, to, day := amount(pick(r, currencies), pick(r, units())), pick(r, currencies), r.IntN(12)
		direct, err := money.Convert(l, base, a, to, day)
		if err != api.OK {
			continue
		}
		if product, _ := ratio.Mul(convert(t, l, a, base, day), convert(t, l, amount(base, 1), to, day)); product != direct {
			t.Fatalf("%v is worth %v %s by %v, but through the base %v", a, direct, to, l, product)
		}
	}
}

// P8.2: the conversion of a sum, if this is a valid amount, is the sum of the conversions.
func TestConversionsOfSums(t *testing.T) {
	for _, from := range []string{"EUR", "USD", "US", "u", "USD_", "late"} {
		for _, to := range []string{"EUR", "usd", "USD", "CHF", "u"} {
			for _, a := range units() {
				for _, b := range units() {
					if a+b > maxUnits || a+b < -maxUnits {
						continue
					}
					sum, err := ratio.Add(convert(t, several(), amount(from, a), to, 100000), convert(t, several(), amount(from, b), to, 100000))
					if whole := convert(t, several(), amount(from, a+b), to, 100000); sum != whole || err != api.OK {
						t.Fatalf("%d and %d %s are worth %v %s, and their sum %v, %d", a, b, from, sum, to, whole, err)
					}
				}
			}
		}
	}
}

// orders calls a function with all orders of rates.
func orders(l []api.Rate, f func([]api.Rate)) {
	var place func(n int)
	place = func(n int) {
		if n == len(l) {
			f(slices.Clone(l))
			return
		}
		for i := n; i < len(l); i++ {
			l[n], l[i] = l[i], l[n]
			place(n + 1)
			l[n], l[i] = l[i], l[n]
		}
	}
	place(0)
}

// P8.3: rates in every order.
func TestTheOrderOfRates(t *testing.T) {
	l := []api.Rate{rate("USD", 0, 9, 10), rate("CHF", 1, 1, 1), rate("USD", 3, 4, 5), rate("USD", 2, 7, 6), rate("CHF", 3, 3, 2), rate("USD", 5, 1, 2)}
	orders(l, func(l []api.Rate) {
		for day := range 7 {
			for _, currency := range []string{"USD", "CHF", "EUR", "GBP"} {
				check(t, l, base, amount(currency, 7*day-9), "USD", day)
				check(t, l, base, amount("USD", 5), currency, day)
			}
		}
	})
}

// P8.3: the order of many rates.
func TestTheOrderOfManyRates(t *testing.T) {
	r := rand.New(rand.NewPCG(8, 3))
	l := many(400)
	for range 100 {
		other := shuffled(r, l)
		for range 4 {
			a, to, day := amount(pick(r, l).Currency, pick(r, units())), pick(r, l).Currency, 100000-r.IntN(5300)
			x, err := money.Find(l, base, to, day)
			if y, errY := money.Find(other, base, to, day); x != y || err != errY {
				t.Fatalf("in another order, Find of %s on day %d is %v, %d instead of %v, %d", to, day, y, errY, x, err)
			}
			v, err := money.Convert(l, base, a, to, day)
			if w, errW := money.Convert(other, base, a, to, day); v != w || err != errW {
				t.Fatalf("in another order, Convert of %v to %s on day %d is %v, %d instead of %v, %d", a, to, day, w, errW, v, err)
			}
		}
	}
}

// P8.3: rates of later days, and none of them, make no difference for a day.
func TestRatesOfLaterDays(t *testing.T) {
	r := rand.New(rand.NewPCG(8, 4))
	for range 3000 {
		all := shuffled(r, append(many(20), several()...))
		day := pick(r, all).Day - r.IntN(2)
		if day < 0 {
			continue
		}
		earlier := slices.DeleteFunc(slices.Clone(all), func(x api.Rate) bool { return x.Day > day })
		currency, other := pick(r, all).Currency, pick(r, all).Currency
		x, err := money.Find(all, base, currency, day)
		if y, errY := money.Find(earlier, base, currency, day); x != y || err != errY {
			t.Fatalf("without later rates, Find of %s on day %d is %v, %d instead of %v, %d", currency, day, y, errY, x, err)
		}
		v, err := money.Convert(all, base, amount(currency, 11), other, day)
		if w, errW := money.Convert(earlier, base, amount(currency, 11), other, day); v != w || err != errW {
			t.Fatalf("without later rates, Convert of 11 %s to %s on day %d is %v, %d instead of %v, %d", currency, other, day, w, errW, v, err)
		}
	}
}

// rounded says what Round should for a valid number, with big numbers.
func rounded(r api.Ratio) (int, api.Errno) {
	if len(r.Num) > 140 || len(r.Den) > 140 {
		return 0, api.ErrLimit
	}
	v := value(r)
	floor, rest := new(big.Int).DivMod(v.Num(), v.Denom(), new(big.Int))
	if !floor.IsInt64() || floor.Int64() == math.MaxInt64 {
		return 0, api.ErrRange
	}
	n := int(floor.Int64())
	switch rest.Lsh(rest, 1).Cmp(v.Denom()) {
	case 1:
		return n + 1, api.OK
	case 0:
		return n + n&1, api.OK
	}
	return n, api.OK
}

// fractions are numbers around integers, and around their halves: small ones, those next to the limits of int, and those with up to 141 digits.
func fractions() []*big.Rat {
	var l []*big.Rat
	for n := -80; n <= 80; n++ {
		for d := 1; d <= 12; d++ {
			l = append(l, big.NewRat(int64(n), int64(d)))
		}
	}
	steps := []*big.Int{big.NewInt(1), big.NewInt(2), big.NewInt(3), big.NewInt(4), big.NewInt(7), bigOf("9223372036854775808"), bigOf(tens(60)), bigOf(tens(118)), bigOf(tens(119)), bigOf(tens(120)), bigOf(tens(121))}
	for _, middle := range []*big.Int{big.NewInt(0), big.NewInt(1), big.NewInt(-6), big.NewInt(1000001), big.NewInt(-maxUnits), big.NewInt(math.MaxInt - 1), big.NewInt(math.MaxInt), big.NewInt(math.MinInt + 1), big.NewInt(math.MinInt)} {
		for quarter := int64(-12); quarter <= 12; quarter++ {
			v := new(big.Rat).SetInt(middle)
			v.Add(v, big.NewRat(quarter, 4))
			for _, step := range steps {
				small := new(big.Rat).SetFrac(big.NewInt(1), step)
				l = append(l, v, new(big.Rat).Add(v, small), new(big.Rat).Sub(v, small))
			}
		}
	}
	return l
}

// P8.1, H4: halves next to even and to odd numbers, integers, and numbers between.
func TestRoundOfKnownNumbers(t *testing.T) {
	for _, test := range []struct {
		text string
		want int
	}{
		{"0", 0}, {"1", 1}, {"-1", -1}, {"2", 2}, {"-9", -9}, {"1000000000000", maxUnits}, {"-1000000000000", -maxUnits},
		{"1/2", 0}, {"3/2", 2}, {"5/2", 2}, {"7/2", 4}, {"9/2", 4}, {"11/2", 6}, {"-1/2", 0}, {"-3/2", -2}, {"-5/2", -2}, {"-7/2", -4}, {"-9/2", -4}, {"-11/2", -6},
		{"1/3", 0}, {"2/3", 1}, {"4/3", 1}, {"5/3", 2}, {"-1/3", 0}, {"-2/3", -1}, {"-4/3", -1}, {"-5/3", -2}, {"1/4", 0}, {"3/4", 1}, {"-1/4", 0}, {"-3/4", -1},
		{"49/100", 0}, {"51/100", 1}, {"149/100", 1}, {"151/100", 2}, {"-49/100", 0}, {"-51/100", -1}, {"-149/100", -1}, {"-151/100", -2}, {"249/100", 2}, {"251/100", 3}, {"-249/100", -2}, {"-251/100", -3},
		{"2000000000001/2", maxUnits}, {"2000000000003/2", maxUnits + 2}, {"-2000000000001/2", -maxUnits}, {"-2000000000003/2", -maxUnits - 2},
		{"9223372036854775806", math.MaxInt - 1}, {"9223372036854775805", math.MaxInt - 2}, {"18446744073709551613/2", math.MaxInt - 1}, {"18446744073709551611/2", math.MaxInt - 1}, {"18446744073709551609/2", math.MaxInt - 3},
		{"27670116110564327419/3", math.MaxInt - 1}, {"27670116110564327420/3", math.MaxInt}, {"36893488147419103227/4", math.MaxInt}, {"36893488147419103225/4", math.MaxInt - 1},
		{"-9223372036854775808", math.MinInt}, {"-9223372036854775807", math.MinInt + 1}, {"-18446744073709551615/2", math.MinInt}, {"-18446744073709551613/2", math.MinInt + 2},
		{"-27670116110564327423/3", math.MinInt}, {"-27670116110564327422/3", math.MinInt + 1}, {"-27670116110564327420/3", math.MinInt + 1}, {"-36893488147419103231/4", math.MinInt}, {"-36893488147419103229/4", math.MinInt + 1},
		{"1/" + tens(139), 0}, {"-1/" + tens(139), 0}, {nines(140) + "/" + tens(139), 10}, {"-" + nines(140) + "/" + tens(139), -10}, {tens(139) + "/" + nines(140), 0},
		{"5" + strings.Repeat("0", 138) + "1/" + tens(139), 5}, {"5" + nines(139) + "/" + tens(139), 6}, {nines(139) + "/" + tens(139), 1}, {"4" + nines(138) + "/" + tens(139), 0}, {"5" + strings.Repeat("0", 137) + "1/" + tens(139), 1},
		{"-4" + nines(138) + "/" + tens(139), 0}, {"-5" + strings.Repeat("0", 137) + "1/" + tens(139), -1},
	} {
		r, err := ratio.Parse(test.text)
		if err != api.OK {
			t.Fatalf("%s is no text", test.text)
		}
		if n, err := money.Round(r); n != test.want || err != api.OK {
			t.Errorf("Round of %s is %d, %d", test.text, n, err)
		}
	}
}

// P8.1, H4: numbers whose floor is the greatest int, or none, have no rounded number, though the nearest integer may be one.
func TestNumbersThatAreTooGreatForRound(t *testing.T) {
	for _, text := range []string{
		"9223372036854775807", "9223372036854775808", "9223372036854775809", "18446744073709551615/2", "18446744073709551617/2", "27670116110564327422/3", "27670116110564327423/3", "27670116110564327425/3", "36893488147419103229/4",
		"-9223372036854775809", "-9223372036854775810", "-18446744073709551617/2", "-18446744073709551619/2", "-27670116110564327425/3", "-27670116110564327426/3", "-36893488147419103233/4",
		"18446744073709551616", "-18446744073709551616", "18446744073709551617", tens(100), "-" + tens(100), nines(140), "-" + nines(140), nines(140) + "/2", "-" + nines(140) + "/2", nines(140) + "/" + tens(120), "-" + nines(140) + "/" + tens(120),
	} {
		r, err := ratio.Parse(text)
		if err != api.OK {
			t.Fatalf("%s is no text", text)
		}
		if n, err := money.Round(r); n != 0 || err != api.ErrRange {
			t.Errorf("Round of %s is %d, %d", text, n, err)
		}
	}
}

// P8.1, H4: numbers of 140 digits are rounded, and those of 141 digits, in Num or in Den, have the error ErrLimit, also where they are out of range.
func TestTheLimitOfRound(t *testing.T) {
	for _, test := range []struct {
		r    api.Ratio
		want int
		err  api.Errno
	}{
		{q(false, nines(140), nines(140)[:139]+"8"), 1, api.OK}, {q(true, nines(140), tens(139)), -10, api.OK}, {q(false, "1", nines(140)), 0, api.OK}, {q(false, nines(140), "1"), 0, api.ErrRange}, {q(true, nines(140), "1"), 0, api.ErrRange},
		{q(false, tens(140), nines(140)), 0, api.ErrLimit}, {q(false, nines(140), tens(140)), 0, api.ErrLimit}, {q(true, tens(140), nines(141)), 0, api.ErrLimit}, {q(false, "1", tens(140)), 0, api.ErrLimit}, {q(true, "1", nines(141)), 0, api.ErrLimit},
		{q(false, tens(140), "1"), 0, api.ErrLimit}, {q(true, tens(140), "1"), 0, api.ErrLimit}, {q(false, nines(300), "1"), 0, api.ErrLimit}, {q(true, nines(300), tens(299)), 0, api.ErrLimit}, {q(false, "1", nines(300)), 0, api.ErrLimit}, {q(false, tens(200), "3"), 0, api.ErrLimit},
		{q(false, tens(140), tens(140)), 0, api.ErrArg}, {q(false, tens(140), "2"), 0, api.ErrArg}, {q(true, "2", tens(140)), 0, api.ErrArg}, {q(false, nines(301), "1"), 0, api.ErrArg}, {q(false, "1", tens(300)), 0, api.ErrArg}, {q(false, tens(140), "0"), 0, api.ErrArg},
	} {
		if n, err := money.Round(test.r); n != test.want || err != test.err {
			t.Errorf("Round of %d digits by %d digits is %d, %d", len(test.r.Num), len(test.r.Den), n, err)
		}
	}
}

// P8.1, H4, and P1: numbers that are not valid.
func TestRoundOfNumbersThatAreNotValid(t *testing.T) {
	for _, r := range []api.Ratio{
		{}, q(true, "0", "1"), q(false, "0", "2"), q(false, "0", "0"), q(false, "1", "0"), q(false, "2", "2"), q(false, "6", "4"), q(true, "9", "3"), q(false, "4", "2"),
		q(false, "", "1"), q(false, "1", ""), q(false, "01", "2"), q(false, "1", "02"), q(false, "-1", "2"), q(false, "1", "-2"), q(false, "+1", "2"), q(false, " 1", "2"), q(false, "1/2", "1"), q(false, "x", "1"), q(false, "1", "x"),
		q(true, "", ""), q(false, "5", "10"), q(false, "9223372036854775807", "0"), q(true, "18446744073709551616", "2"), q(false, "1.5", "1"), q(false, "1\n", "2"), q(false, "\u0661", "2"),
	} {
		if n, err := money.Round(r); n != 0 || err != api.ErrArg {
			t.Errorf("Round of %v is %d, %d", r, n, err)
		}
	}
}

// P8.1, H4, and P8.4: rounded numbers agree with another computation, and differ by at most one half. Of two equally near ones the even one is returned, and integers stay.
func TestRound(t *testing.T) {
	half := big.NewRat(1, 2)
	for _, v := range fractions() {
		want, wantErr := rounded(form(v))
		n, err := money.Round(form(v))
		if n != want || err != wantErr {
			t.Fatalf("Round of %v is %d, %d; it should be %d, %d", v, n, err, want, wantErr)
		}
		if err != api.OK {
			continue
		}
		difference := new(big.Rat).Sub(v, big.NewRat(int64(n), 1))
		switch difference.Abs(difference).Cmp(half) {
		case 1:
			t.Fatalf("Round of %v is %d, which is not near", v, n)
		case 0:
			if n%2 != 0 {
				t.Fatalf("Round of %v is %d, which is odd", v, n)
			}
		}
		if v.IsInt() && difference.Sign() != 0 {
			t.Fatalf("Round of the integer %v is %d", v, n)
		}
	}
}

// P8.4: integers stay, up to the one before the greatest int.
func TestIntegersStay(t *testing.T) {
	r := rand.New(rand.NewPCG(8, 5))
	l := append(units(), math.MinInt, math.MinInt+1, math.MinInt+2, math.MaxInt-2, math.MaxInt-1)
	for range 1000 {
		l = append(l, int(r.Uint64()>>r.IntN(64)))
	}
	for _, n := range l {
		if m, err := money.Round(form(big.NewRat(int64(n), 1))); n != math.MaxInt && (m != n || err != api.OK) {
			t.Errorf("Round of %d is %d, %d", n, m, err)
		}
	}
}

// divided says what Split should for arguments that are allowed: the units that are left are given one by one to the first one with the greatest remainder that has none of them.
func divided(units int, parts []int) []int {
	sum := 0
	for _, part := range parts {
		sum += part
	}
	var shares, rests []int
	left := units
	for _, part := range parts {
		product := new(big.Int).Mul(big.NewInt(int64(units)), big.NewInt(int64(part)))
		share, rest := product.DivMod(product, big.NewInt(int64(sum)), new(big.Int))
		shares, rests = append(shares, int(share.Int64())), append(rests, int(rest.Int64()))
		left -= int(share.Int64())
	}
	for ; left > 0; left-- {
		next := slices.Index(rests, slices.Max(rests))
		shares[next]++
		rests[next] = -1
	}
	return shares
}

// checkSplit reports where Split differs from what it should return, or breaks what P8.5 says.
func checkSplit(t *testing.T, units int, parts []int) {
	t.Helper()
	shares, err := money.Split(units, parts)
	if want := divided(units, parts); !slices.Equal(shares, want) || err != api.OK {
		t.Fatalf("Split of %d by %v is %v, %d; it should be %v", units, parts, shares, err, want)
	}
	sum, whole := 0, 0
	for i, part := range parts {
		sum += shares[i]
		whole += part
	}
	if sum != units {
		t.Fatalf("what Split of %d by %v returns adds up to %d", units, parts, sum)
	}
	for i, part := range parts {
		exact := units * part // at most 10^18
		if part == 0 && shares[i] != 0 || shares[i] != exact/whole && shares[i] != (exact+whole-1)/whole {
			t.Fatalf("Split of %d by %v gives %d to the part %d", units, parts, shares[i], part)
		}
		if i > 0 && (part > parts[i-1] && shares[i] < shares[i-1] || part < parts[i-1] && shares[i] > shares[i-1]) {
			t.Fatalf("Split of %d by %v gives more to a lesser part: %v", units, parts, shares)
		}
	}
}

// P8.1, H5: equal remainders, parts of 0, one part, no units, and the limits.
func TestSplitOfKnownUnits(t *testing.T) {
	for _, test := range []struct {
		units       int
		parts, want []int
	}{
		{10, []int{1, 1, 1}, []int{4, 3, 3}}, {11, []int{1, 1, 1}, []int{4, 4, 3}}, {12, []int{1, 1, 1}, []int{4, 4, 4}}, {1, []int{1, 1, 1}, []int{1, 0, 0}}, {2, []int{1, 1, 1}, []int{1, 1, 0}},
		{7, []int{0, 2, 1}, []int{0, 5, 2}}, {7, []int{1, 2, 0}, []int{2, 5, 0}}, {1, []int{0, 0, 1, 0}, []int{0, 0, 1, 0}}, {5, []int{0, 7, 0, 7}, []int{0, 3, 0, 2}}, {1, []int{0, 1, 1}, []int{0, 1, 0}},
		{1, []int{1, 2, 2}, []int{0, 1, 0}}, {1, []int{2, 1, 2}, []int{1, 0, 0}}, {2, []int{1, 2, 2}, []int{0, 1, 1}}, {3, []int{1, 2, 2}, []int{1, 1, 1}}, {4, []int{1, 2, 2}, []int{1, 2, 1}}, {5, []int{1, 3}, []int{1, 4}},
		{100, []int{1, 1, 4}, []int{17, 17, 66}}, {100, []int{4, 1, 1}, []int{67, 17, 16}}, {100, []int{1, 4, 1}, []int{17, 67, 16}}, {10, []int{3, 5, 7}, []int{2, 3, 5}}, {3, []int{2, 1, 1, 1, 1}, []int{1, 1, 1, 0, 0}},
		{0, []int{1}, []int{0}}, {0, []int{0, 5, 1000000}, []int{0, 0, 0}}, {7, []int{3}, []int{7}}, {maxUnits, []int{1}, []int{maxUnits}}, {maxUnits, []int{1000000}, []int{maxUnits}}, {maxUnits, []int{0, 1000000, 0}, []int{0, maxUnits, 0}},
		{maxUnits, []int{1, 1, 1}, []int{333333333334, 333333333333, 333333333333}}, {maxUnits, []int{1, 1000000}, []int{999999, 999999000001}}, {maxUnits, []int{1000000, 999999, 1}, []int{500000000000, 499999500000, 500000}},
	} {
		if shares, err := money.Split(test.units, test.parts); !slices.Equal(shares, test.want) || err != api.OK {
			t.Errorf("Split of %d by %v is %v, %d", test.units, test.parts, shares, err)
		}
		checkSplit(t, test.units, test.parts)
	}
}

// P8.5: all small units and parts.
func TestSplitOfSmallUnits(t *testing.T) {
	var extend func(parts []int, sum int)
	extend = func(parts []int, sum int) {
		for units := range 14 {
			if sum > 0 {
				checkSplit(t, units, parts)
			}
		}
		for part := range 5 {
			if len(parts) < 4 {
				extend(append(slices.Clone(parts), part), sum+part)
			}
		}
	}
	extend(nil, 0)
}

// P8.5: many parts, up to 400, and units up to the limit.
func TestSplitOfManyUnits(t *testing.T) {
	r := rand.New(rand.NewPCG(8, 6))
	for i := range 2000 {
		n, most := 1+r.IntN(12), 1+pick(r, []int{1, 2, 5, 1000, 999999})
		if i%20 == 0 {
			n = 400 - r.IntN(3)
		}
		parts := make([]int, n)
		for j := range parts {
			parts[j] = min(1000000, r.IntN(most+1))
		}
		parts[r.IntN(n)] = pick(r, []int{1, 7, 1000000})
		checkSplit(t, pick(r, []int{0, 1, n - 1, n, r.IntN(1000), r.IntN(maxUnits), maxUnits - 1, maxUnits}), parts)
	}
}

// P8.1, H5: 400 equal parts, of which the first ones get one more.
func TestSplitAmongMany(t *testing.T) {
	for _, part := range []int{1, 3, 1000000} {
		parts := slices.Repeat([]int{part}, 400)
		for _, units := range []int{0, 1, 2, 199, 200, 399, 400, 401, 1000, maxUnits - 1, maxUnits} {
			shares, err := money.Split(units, parts)
			if len(shares) != 400 || err != api.OK {
				t.Fatalf("Split of %d by 400 parts is of %d parts, %d", units, len(shares), err)
			}
			for i, share := range shares {
				want := units / 400
				if i < units%400 {
					want++
				}
				if share != want {
					t.Fatalf("Split of %d by 400 parts of %d gives %d to the part %d", units, part, share, i)
				}
			}
		}
	}
}

// P8.1, H5, and P1: what cannot be divided.
func TestErrorsOfSplit(t *testing.T) {
	ones := func(n int) []int { return slices.Repeat([]int{1}, n) }
	for i, test := range []struct {
		units int
		parts []int
	}{
		{-1, []int{1}}, {-1, nil}, {maxUnits + 1, []int{1}}, {math.MinInt, []int{1}}, {math.MaxInt, []int{1}}, {-400, ones(400)},
		{1, nil}, {1, []int{}}, {0, nil}, {0, []int{0}}, {1, []int{0}}, {1, []int{0, 0, 0}}, {0, make([]int, 400)},
		{1, []int{-1}}, {1, []int{1, -1}}, {1, []int{-1, 1, 1}}, {1, []int{2, -1, 1}}, {0, []int{5, -2}}, {1, []int{math.MinInt}}, {1, []int{math.MinInt, math.MinInt, 1}},
		{1, []int{1000001}}, {1, []int{1, 1000001}}, {1, []int{1000001, 1}}, {0, []int{0, 1000001, 0}}, {1, []int{math.MaxInt}}, {1, []int{math.MaxInt, math.MaxInt, 3}},
		{1, ones(401)}, {0, ones(401)}, {1, ones(5000)}, {1, make([]int, 401)}, {maxUnits, slices.Repeat([]int{1000000}, 401)}, {1, append(make([]int, 400), 1)},
	} {
		if shares, err := money.Split(test.units, test.parts); len(shares) != 0 || err != api.ErrArg {
			t.Errorf("%d: Split of %d by %d parts is %v, %d", i, test.units, len(test.parts), shares, err)
		}
	}
}

var textForm = regexp.MustCompile(`\A([A-Za-z][A-Za-z0-9_]*) (0|-?[1-9][0-9]*)\z`)

// read says what Parse should.
func read(text string) (api.Amount, api.Errno) {
	parts := textForm.FindStringSubmatch(text)
	if parts == nil || len(parts[1]) > 24 {
		return api.Amount{}, api.ErrSyntax
	}
	n := bigOf(parts[2])
	if n.CmpAbs(big.NewInt(maxUnits)) > 0 {
		return api.Amount{}, api.ErrSyntax
	}
	return amount(parts[1], int(n.Int64())), api.OK
}

// checkText reports where Parse differs from what it should return, and where Text does not take it back.
func checkText(t *testing.T, text string) {
	t.Helper()
	want, wantErr := read(text)
	a, err := money.Parse(text)
	if a != want || err != wantErr {
		t.Fatalf("Parse(%q) is %v, %d; it should be %v, %d", text, a, err, want, wantErr)
	}
	if err != api.OK {
		return
	}
	if own, err := money.Text(a); own != text || err != api.OK {
		t.Fatalf("Parse accepts %q, but the text of what it returns is %q, %d", text, own, err)
	}
}

// P8.1, H6, and P8.6: texts of amounts, with currencies of 1 and of 24 bytes, negative Units, 0, and the limits.
func TestTextsOfKnownAmounts(t *testing.T) {
	long := strings.Repeat("L", 24)
	for _, test := range []struct {
		a    api.Amount
		text string
	}{
		{amount("EUR", -12), "EUR -12"}, {amount("USD", 0), "USD 0"}, {amount("a", 7), "a 7"}, {amount("x", -1), "x -1"}, {amount("x_9", 10), "x_9 10"}, {amount("e1", 100), "e1 100"},
		{amount(long, maxUnits), long + " 1000000000000"}, {amount(long, -maxUnits), long + " -1000000000000"}, {amount("Z", 999999999999), "Z 999999999999"}, {amount("Z", -999999999999), "Z -999999999999"},
	} {
		if text, err := money.Text(test.a); text != test.text || err != api.OK {
			t.Errorf("Text of %v is %q, %d", test.a, text, err)
		}
		if a, err := money.Parse(test.text); a != test.a || err != api.OK {
			t.Errorf("Parse of %q is %v, %d", test.text, a, err)
		}
	}
}

// P8.6: Parse returns the amount for its text, and different amounts have different texts.
func TestTextsBelongToAmounts(t *testing.T) {
	r := rand.New(rand.NewPCG(8, 7))
	numbers := units()
	for n := -1100; n <= 1100; n++ {
		numbers = append(numbers, n)
	}
	for range 200 {
		numbers = append(numbers, r.IntN(2*maxUnits+1)-maxUnits)
	}
	texts := map[string]api.Amount{}
	for _, currency := range identifiers() {
		for _, n := range numbers {
			a := amount(currency, n)
			text, err := money.Text(a)
			if want := currency + " " + strconv.Itoa(n); text != want || err != api.OK {
				t.Fatalf("Text of %v is %q, %d", a, text, err)
			}
			if b, err := money.Parse(text); a != b || err != api.OK {
				t.Fatalf("Parse of %q is %v, %d", text, b, err)
			}
			if b, ok := texts[text]; ok && a != b {
				t.Fatalf("%v and %v have the text %q", a, b, text)
			}
			texts[text] = a
		}
	}
}

// P8.1, H6: amounts that are not valid have no text.
func TestErrorsOfText(t *testing.T) {
	for _, n := range []int{maxUnits + 1, -maxUnits - 1, 2 * maxUnits, math.MaxInt, math.MinInt} {
		for _, currency := range []string{"EUR", "a", ""} {
			if text, err := money.Text(amount(currency, n)); text != "" || err != api.ErrArg {
				t.Errorf("Text of %d %s is %q, %d", n, currency, text, err)
			}
		}
	}
	for _, currency := range otherTexts() {
		for _, n := range units() {
			if text, err := money.Text(amount(currency, n)); text != "" || err != api.ErrArg {
				t.Errorf("Text of %d %q is %q, %d", n, currency, text, err)
			}
		}
	}
	if text, err := money.Text(api.Amount{}); text != "" || err != api.ErrArg {
		t.Errorf("Text of the zero value is %q, %d", text, err)
	}
}

// P8.6, H6: what is no text of an amount.
func TestTextsOfNoAmount(t *testing.T) {
	for _, text := range []string{
		"", " ", "  ", "EUR", "EUR ", " 5", "5", "EUR5", "EUR  5", "EUR 5 ", " EUR 5", "EUR 5 5", "EUR\t5", "EUR\n5", "EUR 5\n", "EUR\u00a05", "EUR_5", "5 EUR", "EUR EUR", "EUR USD 5", "EUR x", "EUR 5x", "EUR x5",
		"EUR 05", "EUR 00", "EUR 0005", "EUR -05", "EUR -0", "EUR -00", "EUR +5", "EUR +0", "EUR --5", "EUR -+5", "EUR +-5", "EUR - 5", "EUR -", "EUR +", "EUR 5-", "EUR 5.0", "EUR 5,0", "EUR 1e3", "EUR 1_000", "EUR 0x10", "EUR 0b1", "EUR 0o7", "EUR 1/2",
		"EUR \u0665", "EUR \uff15", "EUR 5\x00", "\x00EUR 5", "E R 5", "1UR 5", "_UR 5", "E-R 5", "\u00c4 5", strings.Repeat("a", 25) + " 5", strings.Repeat("a", 300) + " 5",
		"EUR 1000000000001", "EUR -1000000000001", "EUR 9999999999999", "EUR 10000000000000", "EUR 9223372036854775807", "EUR -9223372036854775808", "EUR 9223372036854775808", "EUR 18446744073709551616", "EUR 18446744073709551621", "EUR -18446744073709551611", "EUR " + nines(300), "EUR -" + tens(300), "EUR " + strings.Repeat("0", 300) + "5",
	} {
		if a, err := money.Parse(text); a != (api.Amount{}) || err != api.ErrSyntax {
			t.Errorf("Parse(%q) is %v, %d", text, a, err)
		}
		checkText(t, text)
	}
}

// P8.6: all short texts of some bytes, and texts of amounts in which one byte is changed, left out or put in.
func TestTextsThatAreParsed(t *testing.T) {
	const bytes = "aZ 019-+_"
	var extend func(text string, left int)
	extend = func(text string, left int) {
		checkText(t, text)
		for i := range len(bytes) {
			if left > 0 {
				extend(text+bytes[i:i+1], left-1)
			}
		}
	}
	extend("", 5)
	for _, text := range []string{"EUR 5", "a -7", "x_1 120", "b2 0", strings.Repeat("Q", 24) + " -1000000000000", strings.Repeat("Q", 23) + " 1000000000000", "USD 999999999999"} {
		for i := range len(text) + 1 {
			for c := range 256 {
				checkText(t, text[:i]+string([]byte{byte(c)})+text[i:])
				if i < len(text) {
					checkText(t, text[:i]+string([]byte{byte(c)})+text[i+1:])
				}
			}
			if i < len(text) {
				checkText(t, text[:i]+text[i+1:])
			}
		}
	}
}

// P1: all functions end for long arguments, and for numbers at the limits of int.
func TestLongArguments(t *testing.T) {
	for _, text := range []string{strings.Repeat("a", 1000000), strings.Repeat(" ", 1000000), "a " + strings.Repeat("9", 1000000), "a " + strings.Repeat("0", 1000000), strings.Repeat("a ", 500000), strings.Repeat("\xff", 1000000)} {
		if a, err := money.Parse(text); a != (api.Amount{}) || err != api.ErrSyntax {
			t.Errorf("Parse of %d bytes is %v, %d", len(text), a, err)
		}
		if text, err := money.Text(amount(text, 1)); text != "" || err != api.ErrArg {
			t.Errorf("Text of a long currency is %q, %d", text, err)
		}
		if money.Valid(nil, text) || money.Valid([]api.Rate{rate(text, 0, 1, 1)}, base) || money.Valid([]api.Rate{rate("USD", 0, 1, 1), rate(text, 0, 1, 1)}, text) {
			t.Errorf("rates of a long currency are valid")
		}
		if x, err := money.Find(nil, base, text, 0); x != (api.Rate{}) || err != api.ErrArg {
			t.Errorf("Find of a long currency is %v, %d", x, err)
		}
		if x, err := money.Convert(nil, base, amount(base, 1), text, 0); x != (api.Ratio{}) || err != api.ErrArg {
			t.Errorf("Convert to a long currency is %v, %d", x, err)
		}
		if n, err := money.Round(q(false, text, text)); n != 0 || err != api.ErrArg {
			t.Errorf("Round of long texts is %d, %d", n, err)
		}
	}
	if money.Valid(make([]api.Rate, 1000000), base) {
		t.Error("1000000 rates are valid")
	}
	if shares, err := money.Split(1, make([]int, 1000000)); len(shares) != 0 || err != api.ErrArg {
		t.Errorf("Split by 1000000 parts is of %d parts, %d", len(shares), err)
	}
	extremes := []int{math.MinInt, math.MinInt + 1, -1, 0, 1, math.MaxInt - 1, math.MaxInt}
	for _, a := range extremes {
		for _, b := range extremes {
			check(t, []api.Rate{rate("x", a, b, 1), rate("y", 1, a, b)}, base, amount("y", a), "x", b)
			check(t, []api.Rate{rate("x", 0, 1, 1)}, base, amount("x", a), base, b)
			if shares, err := money.Split(a, []int{b, b}); (err == api.OK) != (b == 1 && (a == 0 || a == 1)) {
				t.Errorf("Split of %d by %d, %d is %v, %d", a, b, b, shares, err)
			}
		}
	}
}

// P3: equal arguments yield equal results, whatever was asked for before.
func TestEqualArgumentsYieldEqualResults(t *testing.T) {
	parts := []int{5, 0, 5, 3, 5, 3}
	for i := range 200 {
		other := money.Valid(many(i), "c1")
		if !money.Valid(several(), base) || other != (i <= 1) {
			t.Fatal("Valid is not what it was")
		}
		if x, err := money.Find(several(), base, "USD", 12); x != rate("USD", 11, 1000000, 999999) || err != api.OK {
			t.Fatalf("Find is now %v, %d", x, err)
		}
		if x, err := money.Convert(several(), base, amount("US", 14), "USD", 10); x != q(false, "7", "400000") || err != api.OK {
			t.Fatalf("Convert is now %v, %d", x, err)
		}
		if n, err := money.Round(q(true, "7", "2")); n != -4 || err != api.OK {
			t.Fatalf("Round is now %d, %d", n, err)
		}
		if x, err := money.Split(23, parts); !slices.Equal(x, []int{6, 0, 6, 3, 5, 3}) || err != api.OK {
			t.Fatalf("Split is now %v, %d", x, err)
		}
		if text, err := money.Text(amount("USD", i)); text != "USD "+strconv.Itoa(i) || err != api.OK {
			t.Fatalf("Text is now %q, %d", text, err)
		}
		if a, err := money.Parse("USD 3"); a != amount("USD", 3) || err != api.OK {
			t.Fatalf("Parse is now %v, %d", a, err)
		}
	}
}

// No call changes its arguments, nor what lies behind them in memory, and what Split returned is not changed by what is done to it or to its argument.
func TestArgumentsAreNotChanged(t *testing.T) {
	behind := append(several(), rate("behind", 1, 2, 3), rate("behind", 2, 3, 4))
	l := behind[:len(behind)-2]
	want := slices.Clone(behind)
	for _, currency := range []string{base, "USD", "GBP", ""} {
		money.Valid(l, currency)
		money.Find(l, base, currency, 20)
		money.Find(l, currency, base, 20)
		money.Convert(l, base, amount(currency, 7), "USD", 100000)
		money.Convert(l, base, amount("USD", 7), currency, 100000)
	}
	if !slices.Equal(behind, want) {
		t.Errorf("the rates were changed to %v", behind)
	}
	all := []int{3, 1, 0, 2, 1, 3, 77, 88}
	parts := all[:6]
	first, _ := money.Split(7, parts)
	second, _ := money.Split(7, parts)
	if !slices.Equal(all, []int{3, 1, 0, 2, 1, 3, 77, 88}) {
		t.Errorf("the parts were changed to %v", all)
	}
	shares := slices.Clone(first)
	for i := range second {
		second[i], parts[i] = 999, 999
	}
	if !slices.Equal(first, shares) {
		t.Errorf("what Split returned was changed to %v", first)
	}
	money.Split(-1, parts)
	money.Split(5, append(parts[:0:0], 1, -1))
	if !slices.Equal(parts, []int{999, 999, 999, 999, 999, 999}) {
		t.Errorf("the parts were changed to %v", parts)
	}
}
