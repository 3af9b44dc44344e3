package natural

import (
	"cmp"
	"slices"
	"sort"
	"strconv"
	"strings"
)

// The base is a power of ten, so that texts are read and written limb by limb. It is small enough for three limbs, and for a sum of many products of two, to fit in an int.
const (
	limbDigits = 6
	base       = 1000000
)

// number is a natural number: its limbs are from 0 to base - 1, the least significant one comes first, and the last one is not 0. So 0 has no limbs.
type number []int

// numberOf returns the number of a text of digits.
func numberOf(s string) number {
	var n number
	for end := len(s); end > 0; end -= limbDigits {
		limb := 0
		for i := max(0, end-limbDigits); i < end; i++ {
			limb = limb*10 + int(s[i]-'0')
		}
		n = append(n, limb)
	}
	return n.trimmed()
}

// text returns the digits of a number.
func (a number) text() string {
	if a.isZero() {
		return "0"
	}
	var digits strings.Builder
	digits.WriteString(strconv.Itoa(a[len(a)-1]))
	for i := len(a) - 2; i >= 0; i-- {
		// The base in front keeps the zeros with which a limb begins.
		digits.WriteString(strconv.Itoa(base + a[i])[1:])
	}
	return digits.String()
}

// isZero reports whether a number is 0.
func (a number) isZero() bool { return len(a) == 0 }

// trimmed returns a number without the zeros that are its last limbs.
func (a number) trimmed() number {
	for len(a) > 0 && a[len(a)-1] == 0 {
		a = a[:len(a)-1]
	}
	return a
}

// compare returns -1, 0 or 1.
func (a number) compare(b number) int {
	if len(a) != len(b) {
		return cmp.Compare(len(a), len(b))
	}
	for i := len(a) - 1; i >= 0; i-- {
		if a[i] != b[i] {
			return cmp.Compare(a[i], b[i])
		}
	}
	return 0
}

// settled returns the number whose limbs may still be outside of their range: what exceeds it, or lacks, is carried upwards. The limbs are changed, and the last one must be able to take what is carried to it.
func settled(limbs []int) number {
	carry := 0
	for i, limb := range limbs {
		limb += carry
		carry = limb / base
		limb %= base
		if limb < 0 {
			limb += base
			carry--
		}
		limbs[i] = limb
	}
	return number(limbs).trimmed()
}

// plus returns the sum.
func (a number) plus(b number) number {
	limbs := make([]int, max(len(a), len(b))+1)
	copy(limbs, a)
	for i, limb := range b {
		limbs[i] += limb
	}
	return settled(limbs)
}

// minus returns the difference; b is not greater than a.
func (a number) minus(b number) number {
	limbs := slices.Clone(a)
	for i, limb := range b {
		limbs[i] -= limb
	}
	return settled(limbs)
}

// times returns the product.
func (a number) times(b number) number {
	limbs := make([]int, len(a)+len(b))
	for i, x := range a {
		for j, y := range b {
			limbs[i+j] += x * y
		}
	}
	return settled(limbs)
}

// divided returns the quotient and the remainder by b, which is not 0.
func (a number) divided(b number) (q, r number) {
	if len(a) < len(b) {
		return nil, a
	}
	count := len(a) - len(b) + 1
	q = make(number, count)
	// With fewer limbs than b, these are less than b.
	r = a[count:]
	for i := count - 1; i >= 0; i-- {
		r = slices.Concat(number{a[i]}, r).trimmed()
		q[i] = quotientLimb(r, b)
		r = r.minus(b.times(number{q[i]}))
	}
	return q.trimmed(), r
}

// quotientLimb returns how many times b, which is not 0, is contained in r, which is less than base times b. If b has limbs below its two highest ones, these two and those of r above the same place leave one or two candidates.
func quotientLimb(r, b number) int {
	least := max(0, len(b)-2)
	dividend, divisor := r.above(least), b.above(least)
	high := dividend / divisor
	if least == 0 {
		return high
	}
	low := dividend / (divisor + 1)
	return low + sort.Search(high-low, func(k int) bool {
		return r.compare(b.times(number{low + k + 1})) < 0
	})
}

// above returns the value of the limbs above some of the least ones. There are at most three of them.
func (a number) above(least int) int {
	value := 0
	for i := len(a) - 1; i >= least; i-- {
		value = value*base + a[i]
	}
	return value
}

// divisor returns the greatest common divisor.
func (a number) divisor(b number) number {
	for !b.isZero() {
		_, r := a.divided(b)
		a, b = b, r
	}
	return a
}
