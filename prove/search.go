package prove

import (
	"strings"

	"probity/api"
)

// candidate is an entry with its points for the numbers low that are tried and possible, the least one first.
type candidate struct {
	entry  api.Entry
	scores []score
}

// search compares all entries of a grid; work beyond the limit of all searches makes it no larger.
func (r rules) search(claim, work int) api.Verdict {
	g := r.gridFor(claim, min(work, api.MaxSearch))
	candidates := r.candidatesOf(g)
	showsOpposite := r.tests()[claim]
	for _, first := range candidates {
		for _, second := range candidates {
			if at, before, found := contradiction(showsOpposite, first, second); found {
				return api.Verdict{Kind: api.Counter, Entries: shown(claim, first.entry, second.entry, g.lows[at], g.lows[before])}
			}
		}
	}
	if g.complete {
		return api.Verdict{Kind: api.Proved}
	}
	return api.Verdict{Kind: api.Gap}
}

func (r rules) candidatesOf(g grid) []candidate {
	var candidates []candidate
	for x := range g.entries() {
		c := candidate{entry: x}
		for _, low := range g.lows {
			if low <= x.Price {
				c.scores = append(c.scores, r.scoreOf(x, low))
			}
		}
		candidates = append(candidates, c)
	}
	return candidates
}

// contradiction returns the place of a number low for which two entries show the opposite of a claim, and that of the first one for which both have points: if their order changes at all, it changes between this one and another one.
func contradiction(showsOpposite func(comparison) bool, first, second candidate) (at, before int, found bool) {
	before = -1
	signBefore := 0
	for at := range min(len(first.scores), len(second.scores)) {
		sign, exists := compareScores(first.scores[at], second.scores[at])
		if !exists {
			continue
		}
		if before < 0 {
			before, signBefore = at, sign
		}
		if showsOpposite(comparison{first.entry, second.entry, sign, signBefore}) {
			return at, before, true
		}
	}
	return 0, 0, false
}

// shown returns the entries that show the opposite of a claim: two entries, and further ones that have the numbers low as prices, where they are necessary.
func shown(claim int, first, second api.Entry, low, before int) []api.Entry {
	entries := []api.Entry{first, second}
	if claim == stable {
		entries = append(entries, withPrice(first, before))
	}
	if low < leastPrice(entries[:2]) {
		entries = append(entries, withPrice(first, low))
	}
	for i, x := range entries {
		entries[i].Values = copied(x.Values)
	}
	return entries
}

func withPrice(x api.Entry, price int) api.Entry {
	x.Price = price
	return x
}

func copied(values []api.Value) []api.Value {
	var copies []api.Value
	for _, v := range values {
		copies = append(copies, api.Value{Name: strings.Clone(v.Name), N: v.N})
	}
	return copies
}
