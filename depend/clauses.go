package depend

import (
	"slices"
	"strconv"

	"probity/api"
	"probity/types"
)

// Clauses that every tender has.
const (
	nameClause    = "name"
	rangeClause   = "range"
	formulaClause = "formula"
	tiesClause    = "ties"
	mostClause    = "most"
	combosClause  = "combos"
	budgetClause  = "budget"
	timesClause   = "times"
)

// What the other clauses begin with; no clause can be mistaken for one of another kind.
const (
	lotPrefix       = "lot "
	criterionPrefix = "criterion "
	requirePrefix   = "require "
)

// Names that stand for prices.
const (
	priceName = "price"
	lowName   = "low"
)

// clause is a clause of a tender.
type clause struct {
	name    string
	content api.Tender // has the content of this clause, and nothing else
	uses    []string   // the names of the clauses that it uses, in order
}

func nameOf(c clause) string { return c.name }

func namesOf(clauses []clause) []string { return each(clauses, nameOf) }

func lotClause(id int) string { return lotPrefix + strconv.Itoa(id) }

func nameOfLot(l api.Lot) string { return lotClause(l.Id) }

func nameOfCriterion(c api.Criterion) string { return criterionPrefix + c.Name }

// clausesOf returns the clauses of a tender, in order. They share memory with the tender.
func clausesOf(t api.Tender) []clause {
	lots, criteria := firsts(t.Lots, nameOfLot), firsts(t.Criteria, nameOfCriterion)
	return slices.Concat(
		[]clause{{name: nameClause, content: api.Tender{Name: t.Name}}},
		each(lots, ofLot),
		each(criteria, ofCriterion),
		ofRequires(t.Requires, setOf(each(criteria, nameOfCriterion))),
		ofOtherRules(t, lots, criteria),
	)
}

func ofLot(l api.Lot) clause {
	return clause{name: nameOfLot(l), content: api.Tender{Lots: []api.Lot{l}}}
}

func ofCriterion(c api.Criterion) clause {
	return clause{name: nameOfCriterion(c), content: api.Tender{Criteria: []api.Criterion{c}}}
}

func ofRequires(requires []api.Require, isCriterion map[string]bool) []clause {
	var clauses []clause
	for i, r := range requires {
		c := clause{name: requirePrefix + strconv.Itoa(i+1), content: api.Tender{Requires: []api.Require{r}}}
		if criterion := criterionPrefix + r.Name; isCriterion[criterion] {
			c.uses = []string{criterion}
		}
		clauses = append(clauses, c)
	}
	return clauses
}

// ofOtherRules returns the clauses after those of the requirements.
func ofOtherRules(t api.Tender, lots []api.Lot, criteria []api.Criterion) []clause {
	everyLot := each(lots, nameOfLot)
	return []clause{
		{rangeClause, api.Tender{Low: t.Low, High: t.High}, nil},
		{formulaClause, api.Tender{Formula: t.Formula}, usesByName(criteria, types.Names(t.Formula), priceName, lowName)},
		{tiesClause, api.Tender{Ties: t.Ties}, usesByName(criteria, t.Ties, priceName)},
		{mostClause, api.Tender{Most: t.Most}, everyLot},
		{combosClause, api.Tender{Combos: t.Combos}, usesOfCombos(lots, t.Combos)},
		{budgetClause, api.Tender{Budget: t.Budget}, append(slices.Clone(everyLot), combosClause)},
		{timesClause, api.Tender{Times: t.Times}, nil},
	}
}

// usesByName returns the clauses for which names stand: criteria, and the range, if one of the prices is among the names.
func usesByName(criteria []api.Criterion, names []string, prices ...string) []string {
	isNamed := setOf(names)
	uses := each(found(criteria, func(c api.Criterion) bool { return isNamed[c.Name] }), nameOfCriterion)
	if slices.ContainsFunc(prices, func(price string) bool { return isNamed[price] }) {
		uses = append(uses, rangeClause)
	}
	return uses
}

func usesOfCombos(lots []api.Lot, combos [][]int) []string {
	isInCombo := map[int]bool{}
	for _, combo := range combos {
		for _, id := range combo {
			isInCombo[id] = true
		}
	}
	return each(found(lots, func(l api.Lot) bool { return isInCombo[l.Id] }), nameOfLot)
}
