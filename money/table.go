package money

import "customhouse/api"

// date is a currency with the day from which on a rate holds.
type date struct {
	currency string
	day      int
}

// table has the rates of a list, and the one of the base currency, by their dates.
type table map[date]api.Rate

// tableOf returns the table of rates, and whether they are valid for a base currency.
func tableOf(l []api.Rate, base string) (table, bool) {
	if !isCurrency(base) || len(l) > api.MaxRates {
		return nil, false
	}
	t := table{date{base, 0}: api.Rate{Currency: base, Num: 1, Den: 1}}
	for _, r := range l {
		if !isRate(r) || r.Currency == base {
			return nil, false
		}
		d := date{r.Currency, r.Day}
		if _, twice := t[d]; twice {
			return nil, false
		}
		t[d] = r
	}
	return t, true
}

// find returns the rate of a currency on a day.
func (t table) find(currency string, day int) (api.Rate, api.Errno) {
	if !isCurrency(currency) || !isDay(day) {
		return api.Rate{}, api.ErrArg
	}
	rate, found := latest(t, func(d date) (int, bool) { return d.day, d.currency == currency && d.day <= day })
	if !found {
		return api.Rate{}, api.ErrNone
	}
	return rate, api.OK
}

// latest returns the value whose key has the greatest number of those that a function accepts, and whether there is any. These numbers differ, so that the order in which the map is searched makes no difference.
func latest[K comparable, V any](m map[K]V, number func(K) (int, bool)) (V, bool) {
	var best V
	greatest, found := 0, false
	for key, value := range m {
		if n, ok := number(key); ok && (!found || n > greatest) {
			best, greatest, found = value, n, true
		}
	}
	return best, found
}

// isRate reports whether a rate has a currency, a day, and numbers that are allowed.
func isRate(r api.Rate) bool {
	return isCurrency(r.Currency) && isDay(r.Day) && isFactor(r.Num) && isFactor(r.Den)
}

// isFactor reports whether a number may be Num or Den of a rate.
func isFactor(n int) bool { return n >= 1 && n <= api.MaxValue }

// isDay reports whether a number is a day.
func isDay(n int) bool { return n >= 0 && n <= api.MaxDay }

// isCurrency reports whether a text is an identifier.
func isCurrency(s string) bool {
	if s == "" || len(s) > api.MaxName || !isLetter(s[0]) {
		return false
	}
	for i := range len(s) {
		if c := s[i]; !isLetter(c) && (c < '0' || c > '9') && c != '_' {
			return false
		}
	}
	return true
}

// isLetter reports whether a byte is a letter.
func isLetter(c byte) bool { return c >= 'a' && c <= 'z' || c >= 'A' && c <= 'Z' }
