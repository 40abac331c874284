package ratio

import (
	"math"

	"probity/api"
)

// fraction is a number in lowest terms, as a sign and magnitudes: unlike an int, a magnitude of 2^63 can be negated, and can be a denominator on the way.
type fraction struct {
	negative bool
	num, den uint64
}

func fractionOf(a api.Rat) fraction {
	return fraction{negative: a.Num < 0, num: magnitude(a.Num), den: magnitude(a.Den)}
}

func (f fraction) negated() fraction {
	return fraction{negative: !f.negative, num: f.num, den: f.den}
}

func (f fraction) inverted() fraction {
	return fraction{negative: f.negative, num: f.den, den: f.num}
}

// sum takes the common divisor of the denominators out before it multiplies: then every value on the way has at most 128 bits, and only divisors of that one can be left to cancel.
func sum(a, b fraction) (api.Rat, bool) {
	shared := commonDivisor(a.den, b.den)
	left, right := multiply(a.num, b.den/shared), multiply(b.num, a.den/shared)
	negative, total := addSigned(a.negative, left, b.negative, right)
	rest := commonDivisor(total.modulo(shared), shared)
	return fit(negative, total.divided(rest), multiply(a.den/shared, b.den/rest))
}

func addSigned(leftNegative bool, left wide, rightNegative bool, right wide) (bool, wide) {
	switch {
	case leftNegative == rightNegative:
		return leftNegative, left.plus(right)
	case left == right:
		return false, wide{}
	case left.less(right):
		return rightNegative, right.minus(left)
	default:
		return leftNegative, left.minus(right)
	}
}

// product cancels across before it multiplies, so that what it multiplies is in lowest terms.
func product(a, b fraction) (api.Rat, bool) {
	falling, rising := commonDivisor(a.num, b.den), commonDivisor(b.num, a.den)
	num := multiply(a.num/falling, b.num/rising)
	den := multiply(a.den/rising, b.den/falling)
	return fit(a.negative != b.negative, num, den)
}

func compare(a, b fraction) int {
	switch {
	case a.negative != b.negative && a.negative:
		return -1
	case a.negative != b.negative:
		return 1
	case a.negative:
		return compareMagnitudes(b, a)
	default:
		return compareMagnitudes(a, b)
	}
}

func compareMagnitudes(a, b fraction) int {
	left, right := multiply(a.num, b.den), multiply(b.num, a.den)
	switch {
	case left == right:
		return 0
	case left.less(right):
		return -1
	default:
		return 1
	}
}

// fit returns the number of which these are the sign and the parts, which have no common divisor; 0 and false, if it does not fit.
func fit(negative bool, num, den wide) (api.Rat, bool) {
	mostNum, mostDen := wide{low: math.MaxInt}, wide{low: math.MaxInt}
	if negative {
		mostNum.low++
	}
	if mostNum.less(num) || mostDen.less(den) {
		return noNumber()
	}
	if negative {
		return api.Rat{Num: int(-num.low), Den: int(den.low)}, true
	}
	return api.Rat{Num: int(num.low), Den: int(den.low)}, true
}

// magnitude is right for -2^63 too: the negation of a uint64 wraps around.
func magnitude(n int) uint64 {
	if n < 0 {
		return -uint64(n)
	}
	return uint64(n)
}

// commonDivisor returns the greatest common divisor; of 0 and a number, this number.
func commonDivisor(a, b uint64) uint64 {
	for b != 0 {
		a, b = b, a%b
	}
	return a
}
