package amend

import (
	"probity/api"
	"probity/depend"
)

// By how many minutes a change moves deadlines.
const (
	day          = 1440
	offersChange = 7 * day // what bidders must offer
	awardsChange = 3 * day // how offers are compared and combined
)

// Clauses whose distance is not that of what bidders must offer.
const (
	nameClause    = "name"
	formulaClause = "formula"
	tiesClause    = "ties"
	mostClause    = "most"
	combosClause  = "combos"
	budgetClause  = "budget"
	timesClause   = "times"
)

// distance returns how far deadlines are moved from one tender to the next.
func distance(old, next api.Tender) int {
	greatest := 0
	for _, clause := range depend.Changed(old, next) {
		greatest = max(greatest, distanceOf(clause))
	}
	return greatest
}

func distanceOf(clause string) int {
	switch clause {
	case nameClause, timesClause:
		return 0
	case formulaClause, tiesClause, mostClause, combosClause, budgetClause:
		return awardsChange
	}
	return offersChange
}

// isAnyEarlier reports whether one of the times is less than it was before.
func isAnyEarlier(times, before api.Times) bool {
	return times.Questions < before.Questions ||
		times.Bids < before.Bids ||
		times.Grades < before.Grades ||
		times.Prices < before.Prices ||
		times.Still < before.Still
}

// moved returns the times with deadlines that lie by the distance, which is from 0 to MaxNumber, behind those before, as far as MaxNumber permits it.
func moved(times, before api.Times, distance int) api.Times {
	later := func(own, old int) int {
		if old > api.MaxNumber-distance {
			// The sum would be greater, or even overflow.
			return max(own, api.MaxNumber)
		}
		return max(own, old+distance)
	}
	times.Bids = later(times.Bids, before.Bids)
	times.Grades = later(times.Grades, before.Grades)
	times.Prices = later(times.Prices, before.Prices)
	return times
}
