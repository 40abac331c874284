// Package copies returns tenders and formulas in new memory, for the layers whose results must not share any with their arguments.
package copies

import (
	"slices"
	"strings"

	"probity/api"
)

// Tender returns any tender in new memory.
func Tender(t api.Tender) api.Tender {
	t.Name = strings.Clone(t.Name)
	t.Lots = slices.Clone(t.Lots)
	t.Criteria = each(t.Criteria, criterion)
	t.Requires = each(t.Requires, require)
	t.Formula = Formula(t.Formula)
	t.Ties = each(t.Ties, strings.Clone)
	t.Combos = each(t.Combos, slices.Clone[[]int])
	return t
}

func criterion(c api.Criterion) api.Criterion {
	c.Name = strings.Clone(c.Name)
	return c
}

func require(r api.Require) api.Require {
	r.Name, r.Rel = strings.Clone(r.Name), strings.Clone(r.Rel)
	return r
}

func each[T any](list []T, copied func(T) T) []T {
	var own []T
	for _, x := range list {
		own = append(own, copied(x))
	}
	return own
}
