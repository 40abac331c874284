package eval

import (
	"slices"

	"probity/api"
)

// requirePrice fails if the tender has no such lot, or the price is not one for this lot.
func requirePrice(t api.Tender, x api.Entry) {
	i := slices.IndexFunc(t.Lots, func(l api.Lot) bool { return l.Id == x.Lot })
	require(i >= 0, api.ErrNone)
	require(t.Low <= x.Price && x.Price <= min(t.High, t.Lots[i].Most), api.ErrValue)
}

// named is how many values have a name, and the first one of them.
type named struct{ count, first int }

func valuesByName(values []api.Value) map[string]named {
	byName := map[string]named{}
	for _, v := range values {
		n := byName[v.Name]
		if n.count == 0 {
			n.first = v.N
		}
		n.count++
		byName[v.Name] = n
	}
	return byName
}

// requireValues fails if a criterion has not exactly one value in its range.
func requireValues(criteria []api.Criterion, values map[string]named) {
	for _, c := range criteria {
		v := values[c.Name]
		require(v.count == 1 && c.Low <= v.first && v.first <= c.High, api.ErrValue)
	}
}

// requireCriteria fails if there is a value without a criterion.
func requireCriteria(criteria []api.Criterion, values map[string]named) {
	known := map[string]bool{}
	for _, c := range criteria {
		known[c.Name] = true
	}
	for name := range values {
		require(known[name], api.ErrName)
	}
}

// requireNoExclusion fails if one of the requirements is not met.
func requireNoExclusion(requires []api.Require, values map[string]named) {
	for _, r := range requires {
		v := values[r.Name]
		require(v.count > 0, api.ErrName)
		require(isMet(r, v.first), api.ErrExclude)
	}
}

func isMet(r api.Require, n int) bool {
	require(r.Rel == "<=" || r.Rel == ">=", api.ErrArg)
	if r.Rel == "<=" {
		return n <= r.Value
	}
	return n >= r.Value
}
