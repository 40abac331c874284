// Package ratio computes exactly with rational numbers whose numerators and denominators are ints.
package ratio

import (
	"strconv"
	"strings"

	"probity/api"
)

// Of returns the number n.
func Of(n int) api.Rat { return api.Rat{Num: n, Den: 1} }

// Make returns num divided by den, if den is not 0 and the number fits; otherwise 0 and false.
func Make(num, den int) (api.Rat, bool) {
	if den == 0 {
		return noNumber()
	}
	n, d := magnitude(num), magnitude(den)
	divisor := commonDivisor(n, d)
	return fit((num < 0) != (den < 0), wide{low: n / divisor}, wide{low: d / divisor})
}

// Right reports whether a is in lowest terms, with a positive denominator.
func Right(a api.Rat) bool {
	return a.Den >= 1 && commonDivisor(magnitude(a.Num), magnitude(a.Den)) == 1
}

// Add returns a + b, if both are right and the sum fits; otherwise 0 and false.
func Add(a, b api.Rat) (api.Rat, bool) {
	return operate(a, b, sum)
}

// Sub returns a - b, if both are right and the difference fits; otherwise 0 and false.
func Sub(a, b api.Rat) (api.Rat, bool) {
	return operate(a, b, func(x, y fraction) (api.Rat, bool) {
		return sum(x, y.negated())
	})
}

// Mul returns a times b, if both are right and the product fits; otherwise 0 and false.
func Mul(a, b api.Rat) (api.Rat, bool) {
	return operate(a, b, product)
}

// Quo returns a divided by b, if both are right, b is not 0, and the quotient fits; otherwise 0 and false.
func Quo(a, b api.Rat) (api.Rat, bool) {
	return operate(a, b, func(x, y fraction) (api.Rat, bool) {
		if y.num == 0 {
			return noNumber()
		}
		return product(x, y.inverted())
	})
}

// Cmp returns -1, 0 or 1 if a is less than, equal to, or greater than b; 0, if one of them is not right.
func Cmp(a, b api.Rat) int {
	order, _ := operate(a, b, func(x, y fraction) (api.Rat, bool) {
		return Of(compare(x, y)), true
	})
	return order.Num
}

// Floor returns the greatest int that is not greater than a; 0, if a is not right.
func Floor(a api.Rat) int {
	if !Right(a) {
		return 0
	}
	floor := a.Num / a.Den
	// The division of ints rounds towards 0, which is up for negative numbers.
	if a.Num%a.Den < 0 {
		floor--
	}
	return floor
}

// Text returns a in decimal, without the denominator 1; the empty string, if a is not right.
func Text(a api.Rat) string {
	if !Right(a) {
		return ""
	}
	if a.Den == 1 {
		return strconv.Itoa(a.Num)
	}
	return strconv.Itoa(a.Num) + "/" + strconv.Itoa(a.Den)
}

// Parse returns the right number whose Text is s; 0 and false, if there is none.
func Parse(s string) (api.Rat, bool) {
	num, den, written := strings.Cut(s, "/")
	if !written {
		den = "1"
	}
	n, numErr := strconv.Atoi(num)
	d, denErr := strconv.Atoi(den)
	a := api.Rat{Num: n, Den: d}
	// Atoi also reads signs and zeros that Text does not write.
	if numErr != nil || denErr != nil || Text(a) != s {
		return noNumber()
	}
	return a, true
}

func noNumber() (api.Rat, bool) { return Of(0), false }

// operate is the one place where the arguments of operations are checked.
func operate(a, b api.Rat, operation func(x, y fraction) (api.Rat, bool)) (api.Rat, bool) {
	if !Right(a) || !Right(b) {
		return noNumber()
	}
	return operation(fractionOf(a), fractionOf(b))
}
