package depend

import (
	"slices"

	"probity/api"
)

// equalContents reports whether two contents of a clause are equal; what plays no part in the clause is zero in both.
func equalContents(a, b api.Tender) bool {
	return a.Name == b.Name &&
		slices.Equal(a.Lots, b.Lots) &&
		slices.Equal(a.Criteria, b.Criteria) &&
		slices.Equal(a.Requires, b.Requires) &&
		a.Low == b.Low &&
		a.High == b.High &&
		equalFormulas(a.Formula, b.Formula) &&
		slices.Equal(a.Ties, b.Ties) &&
		a.Most == b.Most &&
		slices.EqualFunc(a.Combos, b.Combos, slices.Equal[[]int]) &&
		a.Budget == b.Budget &&
		a.Times == b.Times
}

// pair is two lists of arguments that have to be equal.
type pair struct{ a, b []api.Expr }

// place tells pairs of lists with elements apart by where they lie in memory.
type place struct {
	a, b   *api.Expr
	length int
}

// equalFormulas keeps a list of pairs instead of calling itself, and looks at each pair once: lists of arguments can be nested to any depth, share memory, and even contain themselves.
func equalFormulas(a, b api.Expr) bool {
	seen := map[place]bool{}
	pairs := []pair{{[]api.Expr{a}, []api.Expr{b}}}
	for len(pairs) > 0 {
		p := pairs[len(pairs)-1]
		pairs = pairs[:len(pairs)-1]
		if !slices.EqualFunc(p.a, p.b, equalButInside) {
			return false
		}
		for i := range p.a {
			inner := pair{p.a[i].Args, p.b[i].Args}
			if at, exists := inner.place(); exists && !seen[at] {
				seen[at] = true
				pairs = append(pairs, inner)
			}
		}
	}
	return true
}

// equalButInside compares the parts of a formula without what is in their lists of arguments.
func equalButInside(a, b api.Expr) bool {
	return a.Op == b.Op && a.Num == b.Num && a.Name == b.Name && len(a.Args) == len(b.Args)
}

// place returns where a pair of lists of the same length lies; empty lists lie nowhere.
func (p pair) place() (place, bool) {
	if len(p.a) == 0 {
		return place{}, false
	}
	return place{&p.a[0], &p.b[0], len(p.a)}, true
}
