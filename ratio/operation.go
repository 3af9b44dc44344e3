package ratio

import (
	"cmp"

	"customhouse/api"
	"customhouse/natural"
)

// maxOperand is the greatest number of digits with which an operation computes. Sums of such numbers have at most 281 digits, and products 280.
const maxOperand = 140

// operation joins two numbers after the second one was turned into another one.
type operation struct {
	turn func(api.Ratio) api.Ratio
	join func(a, b api.Ratio) (api.Ratio, api.Errno)
}

// of returns what an operation makes of two numbers. It need not be in lowest terms.
func (o operation) of(a, b api.Ratio) (api.Ratio, api.Errno) {
	if !Valid(a) || !Valid(b) {
		return api.Ratio{}, api.ErrArg
	}
	b = o.turn(b)
	if b.Den == "0" {
		return api.Ratio{}, api.ErrZero
	}
	if isLong(a) || isLong(b) {
		return api.Ratio{}, api.ErrLimit
	}
	return o.join(a, b)
}

// isLong reports whether a number has more digits than an operation computes with.
func isLong(r api.Ratio) bool { return len(r.Num) > maxOperand || len(r.Den) > maxOperand }

// same returns the number itself.
func same(r api.Ratio) api.Ratio { return r }

// opposite returns a number with the other sign.
func opposite(r api.Ratio) api.Ratio {
	r.Neg = !r.Neg && r != zero
	return r
}

// reciprocal returns 1 divided by a number. For 0 the denominator is 0.
func reciprocal(r api.Ratio) api.Ratio {
	r.Num, r.Den = r.Den, r.Num
	return r
}

// sum returns the sum of two valid numbers, which is in lowest terms if it is 0.
func sum(a, b api.Ratio) (api.Ratio, api.Errno) {
	if a == opposite(b) {
		return zero, api.OK
	}
	var err api.Errno
	kept := keeping(&err)
	x, y := kept(natural.Mul(a.Num, b.Den)), kept(natural.Mul(b.Num, a.Den))
	r := api.Ratio{Neg: a.Neg, Den: kept(natural.Mul(a.Den, b.Den))}
	order, _ := natural.Compare(x, y)
	switch {
	case a.Neg == b.Neg:
		r.Num = kept(natural.Add(x, y))
	case order > 0:
		r.Num = kept(natural.Sub(x, y))
	default:
		r.Neg = b.Neg
		r.Num = kept(natural.Sub(y, x))
	}
	return r, err
}

// product returns the product of two valid numbers.
func product(a, b api.Ratio) (api.Ratio, api.Errno) {
	var err api.Errno
	kept := keeping(&err)
	r := api.Ratio{Neg: a.Neg != b.Neg, Num: kept(natural.Mul(a.Num, b.Num)), Den: kept(natural.Mul(a.Den, b.Den))}
	return r, err
}

// keeping returns a function that passes digits on and keeps the first error that came with them.
func keeping(first *api.Errno) func(string, api.Errno) string {
	return func(digits string, err api.Errno) string {
		*first = cmp.Or(*first, err)
		return digits
	}
}

// reduced returns a number in lowest terms, or the error that came with it.
func reduced(r api.Ratio, err api.Errno) (api.Ratio, api.Errno) {
	if err != api.OK {
		return api.Ratio{}, err
	}
	return Make(r.Neg, r.Num, r.Den)
}
