package eval

import (
	"probity/api"
	"probity/ratio"
)

// operation is what an Op does with the values of two arguments: it returns the result, and whether this fits.
type operation struct {
	op    string
	apply func(a, b api.Rat) (api.Rat, bool)
}

func operationOf(op string) (operation, bool) {
	for _, o := range [...]operation{
		{"+", ratio.Add},
		{"-", ratio.Sub},
		{"*", ratio.Mul},
		{"/", quotient},
		{"min", lesser},
		{"max", greater},
	} {
		if o.op == op {
			return o, true
		}
	}
	return operation{}, false
}

// applied returns the result of the operation with this Op, or fails, if there is none.
func applied(op string, a, b api.Rat) api.Rat {
	o, known := operationOf(op)
	require(known, api.ErrArg)
	result, fits := o.apply(a, b)
	require(fits, api.ErrRange)
	return result
}

// quotient tells a division by 0, which ratio.Quo refuses too, from a result that does not fit.
func quotient(a, b api.Rat) (api.Rat, bool) {
	require(b.Num != 0, api.ErrZero)
	return ratio.Quo(a, b)
}

func lesser(a, b api.Rat) (api.Rat, bool) {
	if ratio.Cmp(a, b) < 0 {
		return a, true
	}
	return b, true
}

func greater(a, b api.Rat) (api.Rat, bool) {
	if ratio.Cmp(a, b) > 0 {
		return a, true
	}
	return b, true
}
