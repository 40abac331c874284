package prove

import (
	"probity/api"
	"probity/ratio"
	"probity/types"
)

// trend is how the value of a part changes if the number for a name grows: a set of the directions in which it may change, so that the trend of a sum is a union.
type trend int

const (
	none    trend = 0
	up      trend = 1
	down    trend = 2
	unknown trend = up | down
)

func (d trend) reversed() trend {
	switch d {
	case up:
		return down
	case down:
		return up
	}
	return d
}

// shortProofs returns for each claim what reports whether it is true without comparing any entries.
func (r rules) shortProofs() [1 + decided]func() bool {
	return [...]func() bool{monotone: r.hasGoodTrends, stable: r.ignoresLow, decided: r.tiesAll}
}

func (r rules) ignoresLow() bool { return !r.occurs("low") }

func (r rules) tiesAll() bool {
	for _, n := range r.names {
		if !n.tied && n.low != n.high {
			return false
		}
	}
	return true
}

func (r rules) hasGoodTrends() bool {
	for _, n := range r.names {
		good := up
		if n.less {
			good = down
		}
		if d := r.trendOf(r.tender.Formula, n.text); d != none && d != good {
			return false
		}
	}
	return true
}

// trendOf may call itself, because the formula of a sound tender is not deep.
func (r rules) trendOf(part api.Expr, text string) trend {
	if part.Op == "name" && part.Name == text {
		return up
	}
	if len(part.Args) == 0 {
		return none
	}
	a, b := r.trendOf(part.Args[0], text), r.trendOf(part.Args[1], text)
	switch {
	case a|b == none:
		return none
	case part.Op == "-":
		return a | b.reversed()
	case part.Op == "*":
		return productTrend(a, b, r.rangeOf(part.Args[0]), r.rangeOf(part.Args[1]))
	case part.Op == "/":
		return quotientTrend(a, b, r.rangeOf(part.Args[0]), r.rangeOf(part.Args[1]))
	}
	return a | b
}

// interval is where the values of a part lie.
type interval struct{ low, high api.Rat }

func (r rules) rangeOf(part api.Expr) interval {
	// A sound tender has intervals for all parts of its formula.
	low, high, _ := types.Range(r.tender, part)
	return interval{low, high}
}

func (i interval) hasNoNegative() bool { return ratio.Cmp(i.low, ratio.Of(0)) >= 0 }

func (i interval) hasNoPositive() bool { return ratio.Cmp(i.high, ratio.Of(0)) <= 0 }

func (i interval) isPositive() bool { return ratio.Cmp(i.low, ratio.Of(0)) > 0 }

// productTrend is for arguments of which at least one changes.
func productTrend(a, b trend, first, second interval) trend {
	switch {
	case first.hasNoNegative() && second.hasNoNegative():
		return a | b
	case a == none:
		return b.scaled(first)
	case b == none:
		return a.scaled(second)
	}
	return unknown
}

// scaled returns the trend of a product with an argument that does not change.
func (d trend) scaled(factor interval) trend {
	switch {
	case factor.hasNoNegative():
		return d
	case factor.hasNoPositive():
		return d.reversed()
	}
	return unknown
}

// quotientTrend is for arguments of which at least one changes.
func quotientTrend(a, b trend, first, second interval) trend {
	switch {
	case !second.isPositive():
		return unknown
	case b == none:
		return a
	case first.hasNoNegative():
		return a | b.reversed()
	}
	return unknown
}
