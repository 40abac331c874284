package amend_test

import (
	"math/rand"
	"reflect"
	"slices"
	"strings"
	"testing"

	"probity/amend"
	"probity/api"
	"probity/text"
)

// enough is the work with which the tenders of these tests are compiled.
const enough = 1 << 18

// chairsText is a tender that is compiled, in which every kind of clause occurs; its Bids, Grades and Prices are 20, 30 and 40.
const chairsText = `tender Chairs
lot 1 most 500
lot 2 most 400
lot 7 most 300
criterion comfort grade 0 10
criterion speed offer 1 5 less
require speed <= 4
require speed >= 2
price 1 500
formula (500 - price) / 500 + 0.04 * comfort
tie price comfort speed
most 2
combo 1 2
combo 7 2
budget 900
times 10 20 30 40 5
`

// chairs returns a new tender with the text above.
func chairs(t *testing.T) api.Tender {
	t.Helper()
	return parsed(t, chairsText)
}

func parsed(t *testing.T, s string) api.Tender {
	t.Helper()
	x, at, err := text.Parse(s)
	if err != api.OK {
		t.Fatalf("Parse of %q: error %d at %d", s, err, at)
	}
	return x
}

// replaced returns the text above with other lines: each one replaces those that begin with the same word.
func replaced(lines ...string) string {
	all := strings.SplitAfter(chairsText, "\n")
	for _, line := range lines {
		word := strings.Fields(line)[0] + " "
		all = slices.DeleteFunc(all, func(l string) bool { return strings.HasPrefix(l, word) })
		all = append(all, line+"\n")
	}
	return strings.Join(all, "")
}

// edit changes a tender, and so clauses of it.
type edit struct {
	why      string
	change   func(x *api.Tender)
	moves    string // the clauses that Moves returns, with commas
	distance int    // in minutes
}

const (
	threeDays = 4320
	sevenDays = 10080
)

// edits returns changes of each clause of the tender above, and of several ones.
func edits() []edit {
	return slices.Concat(editsOfNothing(), editsOfAwards(), editsOfOffers(), editsOfSeveralClauses())
}

// editsOfNothing returns changes that move no deadline.
func editsOfNothing() []edit {
	return []edit{
		{"nothing", func(x *api.Tender) {}, "", 0},
		{"the name", func(x *api.Tender) { x.Name = "Tables" }, "", 0},
		{"no name", func(x *api.Tender) { x.Name = "" }, "", 0},
		{"Questions", func(x *api.Tender) { x.Times.Questions = 15 }, "", 0},
		{"Still", func(x *api.Tender) { x.Times.Still = 500 }, "", 0},
		{"the order of lots", func(x *api.Tender) { slices.Reverse(x.Lots) }, "", 0},
		{"the order of criteria", func(x *api.Tender) { slices.Reverse(x.Criteria) }, "", 0},
	}
}

// editsOfAwards returns changes that move deadlines by three days.
func editsOfAwards() []edit {
	return []edit{
		{"the formula", func(x *api.Tender) { x.Formula.Op = "-" }, "formula", threeDays},
		{"no formula", func(x *api.Tender) { x.Formula = api.Expr{} }, "formula", threeDays},
		{"the order of ties", func(x *api.Tender) { slices.Reverse(x.Ties) }, "ties", threeDays},
		{"no ties", func(x *api.Tender) { x.Ties = nil }, "ties", threeDays},
		{"Most", func(x *api.Tender) { x.Most = 0 }, "most", threeDays},
		{"a combo", func(x *api.Tender) { x.Combos[1][0] = 1 }, "combos", threeDays},
		{"no combos", func(x *api.Tender) { x.Combos = nil }, "combos", threeDays},
		{"the budget", func(x *api.Tender) { x.Budget-- }, "budget", threeDays},
		{"all of them", func(x *api.Tender) {
			x.Name, x.Most, x.Budget, x.Combos, x.Ties, x.Formula.Op, x.Times.Still = "Tables", 1, 901, nil, nil, "*", 6
		}, "formula, ties, most, combos, budget", threeDays},
	}
}

// editsOfOffers returns changes that move deadlines by seven days.
func editsOfOffers() []edit {
	return []edit{
		{"the Most of a lot", func(x *api.Tender) { x.Lots[1].Most++ }, "lot 2", sevenDays},
		{"a further lot", func(x *api.Tender) { x.Lots = append(x.Lots, api.Lot{Id: 12}) }, "lot 12", sevenDays},
		{"a lot less", func(x *api.Tender) { x.Lots = x.Lots[1:] }, "lot 1", sevenDays},
		{"another Id", func(x *api.Tender) { x.Lots[0].Id = -3 }, "lot -3, lot 1", sevenDays},
		{"the High of a criterion", func(x *api.Tender) { x.Criteria[0].High = 20 }, "criterion comfort", sevenDays},
		{"Less", func(x *api.Tender) { x.Criteria[1].Less = false }, "criterion speed", sevenDays},
		{"a criterion less", func(x *api.Tender) { x.Criteria = x.Criteria[1:] }, "criterion comfort", sevenDays},
		{"a criterion named name", func(x *api.Tender) { x.Criteria = append(x.Criteria, api.Criterion{Name: "name"}) }, "criterion name", sevenDays},
		{"a criterion named times", func(x *api.Tender) { x.Criteria = append(x.Criteria, api.Criterion{Name: "times"}) }, "criterion times", sevenDays},
		{"a criterion named budget", func(x *api.Tender) { x.Criteria = append(x.Criteria, api.Criterion{Name: "budget"}) }, "criterion budget", sevenDays},
		{"a criterion without a name", func(x *api.Tender) { x.Criteria = append(x.Criteria, api.Criterion{}) }, "criterion ", sevenDays},
		{"a requirement", func(x *api.Tender) { x.Requires[1].Value++ }, "require 2", sevenDays},
		{"a further requirement", func(x *api.Tender) { x.Requires = append(x.Requires, api.Require{}) }, "require 3", sevenDays},
		{"a requirement less", func(x *api.Tender) { x.Requires = x.Requires[:1] }, "require 2", sevenDays},
		{"the least price", func(x *api.Tender) { x.Low = 0 }, "range", sevenDays},
		{"the greatest price", func(x *api.Tender) { x.High++ }, "range", sevenDays},
	}
}

// editsOfSeveralClauses returns changes of which the greatest distance counts, once, wherever it stands.
func editsOfSeveralClauses() []edit {
	return []edit{
		{"the name and the budget", func(x *api.Tender) { x.Name, x.Budget = "Tables", 901 }, "budget", threeDays},
		{"a lot and the budget", func(x *api.Tender) { x.Lots[0].Most--; x.Budget++ }, "lot 1, budget", sevenDays},
		{"an old lot and the ties", func(x *api.Tender) { x.Lots, x.Ties = x.Lots[:2], nil }, "ties, lot 7", sevenDays},
		{"lots and criteria", func(x *api.Tender) { x.Lots[0].Most--; x.Lots[2].Most--; x.Criteria[1].Kind = api.KindGrade }, "lot 1, lot 7, criterion speed", sevenDays},
		{"the range, the formula and the times", func(x *api.Tender) { x.High++; x.Formula.Op = "*"; x.Times.Still++ }, "range, formula", sevenDays},
		{"everything", func(x *api.Tender) { *x = api.Tender{Times: x.Times} }, "range, formula, ties, most, combos, budget, lot 1, lot 2, lot 7, criterion comfort, criterion speed, require 1, require 2", sevenDays},
	}
}

// edited returns the tender above after an edit.
func edited(t *testing.T, e edit) api.Tender {
	t.Helper()
	x := chairs(t)
	e.change(&x)
	return x
}

func timesOf(questions, bids, grades, prices, still int) api.Times {
	return api.Times{Questions: questions, Bids: bids, Grades: grades, Prices: prices, Still: still}
}

func checkApply(t *testing.T, why string, old, next api.Tender, time int, want api.Times) {
	t.Helper()
	got, err := amend.Apply(old, next, time)
	if err != api.OK || got.Times != want {
		t.Errorf("Apply, %s: times %v, error %d, want %v", why, got.Times, err, want)
	}
	next.Times = want
	if !text.Equal(got, next) {
		t.Errorf("Apply, %s: %+v, want %+v", why, got, next)
	}
}

func checkApplyError(t *testing.T, why string, old, next api.Tender, time int, want api.Errno) {
	t.Helper()
	got, err := amend.Apply(old, next, time)
	if err != want || !reflect.DeepEqual(got, api.Tender{}) {
		t.Errorf("Apply, %s: %+v, error %d, want error %d", why, got, err, want)
	}
}

// timed returns a tender with nothing but times, in which Bids, Grades and Prices are the same.
func timed(end int) api.Tender { return api.Tender{Times: timesOf(0, end, end, end, 0)} }

// vast returns tenders whose formulas cannot be written out.
func vast() map[string]api.Tender {
	self := make([]api.Expr, 2)
	self[0], self[1] = api.Expr{Op: "+", Args: self}, api.Expr{Op: "-", Args: self}
	shared, deep := api.Expr{Op: "name", Name: "low"}, api.Expr{Op: "name", Name: "low"}
	for range 100 {
		shared = api.Expr{Op: "+", Args: []api.Expr{shared, shared}}
	}
	for range 200000 {
		deep = api.Expr{Op: "+", Args: []api.Expr{deep}}
	}
	return map[string]api.Tender{"containing itself": {Formula: self[0]}, "2^100 parts": {Formula: shared}, "200000 levels": {Formula: deep}}
}

// pick returns one of some values.
func pick[T any](r *rand.Rand, values ...T) T { return values[r.Intn(len(values))] }

// listed writes clauses with commas.
func listed(clauses []string) string { return strings.Join(clauses, ", ") }
