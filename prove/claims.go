package prove

import (
	"slices"

	"probity/api"
	"probity/eval"
	"probity/ratio"
)

// The numbers of the claims.
const (
	monotone = 1 + iota
	stable
	decided
)

// comparison is how the points of two entries compare (as ratio.Cmp says) for a number low, and for a lesser one, if a claim is about two of them.
type comparison struct {
	first, second api.Entry
	sign, before  int
}

// tests returns for each claim what reports whether a comparison shows its opposite.
func (r rules) tests() [1 + decided]func(comparison) bool {
	return [...]func(comparison) bool{monotone: r.isNotMonotone, stable: r.isNotStable, decided: r.isNotDecided}
}

func (r rules) isNotMonotone(c comparison) bool {
	return c.sign < 0 && r.isBetterInOneName(c.first, c.second)
}

func (r rules) isNotStable(c comparison) bool { return c.sign != c.before }

func (r rules) isNotDecided(c comparison) bool {
	return c.sign == 0 && r.differBesideTies(c.first, c.second)
}

// hasLength reports whether a list of entries is as long as those that can show the opposite of the claim.
func hasLength(claim int, l []api.Entry) bool {
	switch claim {
	case monotone, decided:
		return len(l) == 2 || len(l) == 3
	case stable:
		return len(l) == 3 || len(l) == 4
	}
	return false
}

// isContradicted reports whether a list of entries, of a length that the claim permits, shows its opposite. (Two equal numbers low show nothing about claim 2, because the points compare in one way.)
func (r rules) isContradicted(claim int, l []api.Entry) bool {
	low, before := leastPrice(l), leastPrice(l)
	if claim == stable {
		low = leastPrice(slices.Concat(l[:2], l[3:]))
	}
	sign, exists := r.compare(l[0], l[1], low)
	signBefore, existsBefore := r.compare(l[0], l[1], before)
	return exists && existsBefore && r.tests()[claim](comparison{l[0], l[1], sign, signBefore})
}

func leastPrice(l []api.Entry) int {
	least := l[0].Price
	for _, x := range l {
		least = min(least, x.Price)
	}
	return least
}

// compare compares the points of two entries for a number low, and reports whether both have any.
func (r rules) compare(x, y api.Entry, low int) (sign int, exists bool) {
	return compareScores(r.scoreOf(x, low), r.scoreOf(y, low))
}

// score is the points of an entry for a number low, if it has any.
type score struct {
	points api.Rat
	exists bool
}

func (r rules) scoreOf(x api.Entry, low int) score {
	points, err := eval.Points(r.tender, x, low)
	return score{points, err == api.OK}
}

func compareScores(a, b score) (sign int, exists bool) {
	if !a.exists || !b.exists {
		return 0, false
	}
	return ratio.Cmp(a.points, b.points), true
}
