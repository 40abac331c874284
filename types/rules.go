package types

import (
	"slices"

	"probity/api"
)

// rule is what a clause of a right tender has to obey.
type rule struct {
	clause string
	check  func() api.Errno
}

// rulesOf returns the rules of a tender in the order in which they are checked.
func rulesOf(t api.Tender) []rule {
	var rules []rule
	for _, c := range t.Criteria {
		rules = append(rules, rule{c.Name, func() api.Errno { return inOrder(c.Low, c.High) }})
	}
	return append(rules,
		rule{"price", func() api.Errno { return inOrder(t.Low, t.High) }},
		rule{"lot", func() api.Errno { return checkLots(t) }},
		rule{"require", func() api.Errno { return checkRequires(t) }},
		rule{"formula", func() api.Errno { return checkFormula(t) }},
		rule{"tie", func() api.Errno { return checkTies(t) }},
		rule{"combo", func() api.Errno { return checkCombos(t) }},
		rule{"times", func() api.Errno {
			return inOrder(t.Times.Questions, t.Times.Bids, t.Times.Grades, t.Times.Prices)
		}},
	)
}

func inOrder(numbers ...int) api.Errno {
	return unless(slices.IsSorted(numbers), api.ErrValue)
}

func unless(holds bool, err api.Errno) api.Errno {
	if holds {
		return api.OK
	}
	return err
}

func checkLots(t api.Tender) api.Errno {
	for _, l := range t.Lots {
		if l.Most < t.Low {
			return api.ErrValue
		}
	}
	return api.OK
}

func checkRequires(t api.Tender) api.Errno {
	for _, r := range t.Requires {
		c, known := criterionNamed(t, r.Name)
		if !known {
			return api.ErrName
		}
		if c.Kind != api.KindOffer {
			return api.ErrValue
		}
	}
	return api.OK
}

func checkFormula(t api.Tender) api.Errno {
	unit, err := Unit(t, t.Formula)
	if err != api.OK {
		return err
	}
	if unit != "" {
		return api.ErrUnit
	}
	_, _, err = Range(t, t.Formula)
	return err
}

func checkTies(t api.Tender) api.Errno {
	for _, tie := range t.Ties {
		if _, known := criterionNamed(t, tie); !known && tie != "price" {
			return api.ErrName
		}
	}
	return api.OK
}

func checkCombos(t api.Tender) api.Errno {
	for _, lots := range t.Combos {
		for _, id := range lots {
			if !slices.ContainsFunc(t.Lots, func(l api.Lot) bool { return l.Id == id }) {
				return api.ErrNone
			}
		}
	}
	return api.OK
}
