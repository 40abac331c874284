package prove

import (
	"slices"

	"probity/api"
	"probity/types"
)

// name is a name of a tender, with the numbers that an entry can have for it.
type name struct {
	text      string
	low, high int
	less      bool // the lesser number is the better one
	tied      bool // it decides ties
}

func (n name) count() int { return n.high - n.low + 1 }

// rules is a sound tender, with its names (price, and then the criteria in order), and the names that occur in its formula.
type rules struct {
	tender    api.Tender
	names     []name
	occurring []string
}

// rulesOf returns the rules of a tender, and whether it is sound.
func rulesOf(t api.Tender) (rules, bool) {
	if _, err := types.Check(t); err != api.OK {
		return rules{}, false
	}
	names := []name{{"price", t.Low, t.High, true, slices.Contains(t.Ties, "price")}}
	for _, c := range t.Criteria {
		names = append(names, name{c.Name, c.Low, c.High, c.Less, slices.Contains(t.Ties, c.Name)})
	}
	return rules{t, names, types.Names(t.Formula)}, true
}

func (r rules) occurs(text string) bool { return slices.Contains(r.occurring, text) }

// numberOf returns the number that an entry has for the name at this place.
func numberOf(x api.Entry, place int) int {
	if place == 0 {
		return x.Price
	}
	return x.Values[place-1].N
}

func (r rules) isNoEntry(x api.Entry) bool {
	if len(x.Values) != len(r.tender.Criteria) {
		return true
	}
	for i, c := range r.tender.Criteria {
		if x.Values[i].Name != c.Name {
			return true
		}
	}
	for i, n := range r.names {
		if number := numberOf(x, i); number < n.low || number > n.high {
			return true
		}
	}
	return false
}

// isBetterInOneName reports whether two entries differ in exactly one name, in which x is better.
func (r rules) isBetterInOneName(x, y api.Entry) bool {
	differences, better := 0, false
	for i, n := range r.names {
		if a, b := numberOf(x, i), numberOf(y, i); a != b {
			differences++
			better = (a < b) == n.less
		}
	}
	return differences == 1 && better
}

// differBesideTies reports whether two entries differ, but in none of the names that decide ties.
func (r rules) differBesideTies(x, y api.Entry) bool {
	differ := false
	for i, n := range r.names {
		if numberOf(x, i) != numberOf(y, i) {
			if n.tied {
				return false
			}
			differ = true
		}
	}
	return differ
}
