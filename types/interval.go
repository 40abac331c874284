package types

import (
	"slices"

	"probity/api"
	"probity/ratio"
)

// interval is the least and the greatest value of a part.
type interval struct{ low, high api.Rat }

func (i interval) containsZero() bool {
	zero := ratio.Of(0)
	return ratio.Cmp(i.low, zero) <= 0 && ratio.Cmp(zero, i.high) <= 0
}

func intervalOf(t api.Tender, e api.Expr) (interval, api.Errno) {
	leaf := func(part api.Expr) (interval, api.Errno) { return leafInterval(t, part) }
	return reading[interval]{leaf, intervalOperators()}.read(e)
}

func leafInterval(t api.Tender, part api.Expr) (interval, api.Errno) {
	if part.Op == "num" {
		return interval{part.Num, part.Num}, api.OK
	}
	if isPrice(part.Name) {
		return namedInterval(t.Low, t.High)
	}
	c, known := criterionNamed(t, part.Name)
	if !known {
		return interval{}, api.ErrName
	}
	return namedInterval(c.Low, c.High)
}

func namedInterval(low, high int) (interval, api.Errno) {
	if low > high {
		return interval{}, api.ErrValue
	}
	return interval{ratio.Of(low), ratio.Of(high)}, api.OK
}

func intervalOperators() map[string]func(a, b interval) (interval, api.Errno) {
	return map[string]func(a, b interval) (interval, api.Errno){
		"+": func(a, b interval) (interval, api.Errno) {
			return spanned(ratio.Add, ends{a.low, b.low}, ends{a.high, b.high})
		},
		"-": func(a, b interval) (interval, api.Errno) {
			return spanned(ratio.Sub, ends{a.low, b.high}, ends{a.high, b.low})
		},
		"*": func(a, b interval) (interval, api.Errno) {
			return spanned(ratio.Mul, allEnds(a, b)...)
		},
		"/": func(a, b interval) (interval, api.Errno) {
			if b.containsZero() {
				return interval{}, api.ErrZero
			}
			return spanned(ratio.Quo, allEnds(a, b)...)
		},
		"min": func(a, b interval) (interval, api.Errno) {
			return interval{lesser(a.low, b.low), lesser(a.high, b.high)}, api.OK
		},
		"max": func(a, b interval) (interval, api.Errno) {
			return interval{greater(a.low, b.low), greater(a.high, b.high)}, api.OK
		},
	}
}

// ends are one end of each of two intervals.
type ends struct{ first, second api.Rat }

func allEnds(a, b interval) []ends {
	return []ends{{a.low, b.low}, {a.low, b.high}, {a.high, b.low}, {a.high, b.high}}
}

// spanned returns the interval from the least to the greatest result of an operation on pairs of ends; ErrRange, if one of the results does not fit.
func spanned(operation func(a, b api.Rat) (api.Rat, bool), pairs ...ends) (interval, api.Errno) {
	var results []api.Rat
	for _, p := range pairs {
		result, fits := operation(p.first, p.second)
		if !fits {
			return interval{}, api.ErrRange
		}
		results = append(results, result)
	}
	return interval{slices.MinFunc(results, ratio.Cmp), slices.MaxFunc(results, ratio.Cmp)}, api.OK
}

func lesser(a, b api.Rat) api.Rat {
	if ratio.Cmp(a, b) < 0 {
		return a
	}
	return b
}

func greater(a, b api.Rat) api.Rat {
	if ratio.Cmp(a, b) > 0 {
		return a
	}
	return b
}
