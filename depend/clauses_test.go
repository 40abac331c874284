package depend_test

import (
	"math"
	"strconv"
	"testing"

	"probity/api"
	"probity/depend"
)

const chairsClauses = "name, lot 1, lot 2, lot 7, criterion comfort, criterion speed, criterion weight, require 1, require 2, require 3, range, formula, ties, most, combos, budget, times"

// P7.1: the clauses of ordinary tenders, and of the zero one, which has those that every tender has.
func TestClauses(t *testing.T) {
	checkList(t, "Clauses", depend.Clauses(chairs(t)), chairsClauses)
	checkList(t, "Clauses of the zero tender", depend.Clauses(api.Tender{}), "name, range, formula, ties, most, combos, budget, times")
	checkList(t, "Clauses of empty lists", depend.Clauses(api.Tender{Lots: []api.Lot{}, Criteria: []api.Criterion{}, Requires: []api.Require{}}), "name, range, formula, ties, most, combos, budget, times")
}

// P7.1: each clause once, at its first place, in the order of the lists.
func TestClausesOnce(t *testing.T) {
	x := api.Tender{
		Lots:     []api.Lot{{Id: 9, Most: 1}, {Id: 2}, {Id: 9, Most: 2}, {Id: 1}, {Id: 2}},
		Criteria: []api.Criterion{{Name: "b"}, {Name: "a"}, {Name: "b", High: 3}, {Name: "c"}},
		Requires: []api.Require{{Name: "a"}, {Name: "a"}, {Name: "a"}},
	}
	checkList(t, "Clauses", depend.Clauses(x), "name, lot 9, lot 2, lot 1, criterion b, criterion a, criterion c, require 1, require 2, require 3, range, formula, ties, most, combos, budget, times")
}

// P7.1: all Ids and Names are written out, whether they are right or not; numbers of requirements are decimal.
func TestClausesOfWrongTenders(t *testing.T) {
	x := api.Tender{
		Lots:     []api.Lot{{Id: 0}, {Id: -3}, {Id: math.MinInt}, {Id: math.MaxInt}},
		Criteria: []api.Criterion{{Name: ""}, {Name: "a b"}, {Name: "lot 1"}, {Name: "price"}, {Name: "\xff\n"}},
		Requires: make([]api.Require, 11),
	}
	checkList(t, "Clauses", depend.Clauses(x), "name, lot 0, lot -3, lot -9223372036854775808, lot 9223372036854775807, "+
		"criterion , criterion a b, criterion lot 1, criterion price, criterion \xff\n, "+
		"require 1, require 2, require 3, require 4, require 5, require 6, require 7, require 8, require 9, require 10, require 11, range, formula, ties, most, combos, budget, times")
}

// P7.1: what each clause of an ordinary tender uses.
func TestUses(t *testing.T) {
	uses := map[string]string{
		"require 1": "criterion speed",
		"require 2": "criterion weight",
		"require 3": "criterion speed",
		"formula":   "criterion comfort, range",
		"ties":      "criterion comfort, criterion weight, range",
		"most":      "lot 1, lot 2, lot 7",
		"combos":    "lot 1, lot 2, lot 7",
		"budget":    "lot 1, lot 2, lot 7, combos",
	}
	for _, clause := range list(chairsClauses) {
		checkList(t, "Uses of "+clause, depend.Uses(chairs(t), clause), uses[clause])
	}
}

// P7.1: nothing for strings that are not clauses of the tender.
func TestUsesOfNoClause(t *testing.T) {
	for _, s := range []string{
		"", " ", "x", "Formula", "formula ", " formula", "tie", "combo", "requires", "price", "low", "comfort",
		"require", "require ", "require 0", "require 4", "require -1", "require 01", "require +1", "require  1", "require 1 ", "require speed",
		"lot", "lot 3", "lot 01", "criterion", "criterion ", "criterion low", "criterion Speed",
	} {
		checkList(t, "Uses of "+strconv.Quote(s), depend.Uses(chairs(t), s), "")
		checkList(t, "Uses of "+strconv.Quote(s)+" in the zero tender", depend.Uses(api.Tender{}, s), "")
	}
	checkList(t, "Uses of require 1 in the zero tender", depend.Uses(api.Tender{}, "require 1"), "")
}

// P7.1: the formula uses criteria in the order of the tender, and the range for price and for low.
func TestUsesOfFormulas(t *testing.T) {
	for s, want := range map[string]string{
		"1":                               "",
		"price / 500":                     "range",
		"low / 500":                       "range",
		"low / price":                     "range",
		"weight + speed + comfort":        "criterion comfort, criterion speed, criterion weight",
		"weight * weight - weight":        "criterion weight",
		"low / price + weight + speed":    "criterion speed, criterion weight, range",
		"zeal":                            "",
		"zeal + speed":                    "criterion speed",
		"min(speed, price) + range + lot": "criterion speed, range",
	} {
		x := chairs(t)
		x.Formula = formula(t, s)
		checkList(t, "Uses of the formula "+s, depend.Uses(x, "formula"), want)
	}
}

// P7.1: formulas in which types.Names finds nothing use nothing.
func TestUsesOfWrongFormulas(t *testing.T) {
	for why, e := range map[string]api.Expr{
		"no formula":             {},
		"an unknown operation":   apply("^", name("speed"), name("price")),
		"one argument":           {Op: "+", Args: []api.Expr{name("speed")}},
		"a wrong number":         apply("+", name("speed"), num(2, 2)),
		"too deep":               tower(12, name("speed")),
		"too many parts":         sharing(6, name("speed")),
		"containing itself":      looping(2),
		"a name with a Num":      {Op: "name", Name: "speed", Num: api.Rat{Num: 1, Den: 1}},
		"an operation of a name": {Op: "name", Name: "speed", Args: []api.Expr{name("price")}},
	} {
		x := chairs(t)
		x.Formula = e
		checkList(t, "Uses of a formula: "+why, depend.Uses(x, "formula"), "")
	}
	x := chairs(t)
	x.Formula = tower(11, name("speed"))
	checkList(t, "Uses of a formula that is deep, but right", depend.Uses(x, "formula"), "criterion speed")
}

// P7.1: ties use criteria in the order of the tender, and the range for price alone.
func TestUsesOfTies(t *testing.T) {
	for s, want := range map[string]string{
		"":                        "",
		"price":                   "range",
		"low":                     "",
		"price, low":              "range",
		"speed":                   "criterion speed",
		"price, speed, comfort":   "criterion comfort, criterion speed, range",
		"zeal, speed, range":      "criterion speed",
		"speed, speed, Price, , ": "criterion speed",
	} {
		x := chairs(t)
		x.Ties = list(s)
		checkList(t, "Uses of the ties "+s, depend.Uses(x, "ties"), want)
	}
}

// P7.1: combos use the lots that occur in them; the other clauses that use lots use all of them, each once.
func TestUsesOfLots(t *testing.T) {
	for _, c := range []struct {
		combos [][]int
		want   string
	}{
		{nil, ""},
		{[][]int{nil, {}}, ""},
		{[][]int{{7}}, "lot 7"},
		{[][]int{{7, 1}}, "lot 1, lot 7"},
		{[][]int{{7, 7}, {2}, {7, 2}}, "lot 2, lot 7"},
		{[][]int{{3, -1}, {0}}, ""},
		{[][]int{{3, 2}, nil}, "lot 2"},
	} {
		x := chairs(t)
		x.Combos = c.combos
		checkList(t, "Uses of the combos", depend.Uses(x, "combos"), c.want)
		checkList(t, "Uses of the budget", depend.Uses(x, "budget"), "lot 1, lot 2, lot 7, combos")
		checkList(t, "Uses of most", depend.Uses(x, "most"), "lot 1, lot 2, lot 7")
	}
	x := api.Tender{Lots: []api.Lot{{Id: 5}, {Id: -4}, {Id: 5}}, Combos: [][]int{{-4, 5, 5, -4}}}
	checkList(t, "Uses of the combos", depend.Uses(x, "combos"), "lot 5, lot -4")
	checkList(t, "Uses of most", depend.Uses(x, "most"), "lot 5, lot -4")
	checkList(t, "Uses of the budget without lots", depend.Uses(api.Tender{}, "budget"), "combos")
	checkList(t, "Uses of most without lots", depend.Uses(api.Tender{}, "most"), "")
}

// P7.1: requirements use the criterion with their name, of either kind, if there is one.
func TestUsesOfRequirements(t *testing.T) {
	x := chairs(t)
	x.Requires = []api.Require{{Name: "comfort"}, {Name: "zeal"}, {Name: "price"}, {Name: "low"}, {}, {Name: "weight"}}
	x.Criteria = append(x.Criteria, api.Criterion{Name: "weight"})
	for i, want := range []string{"criterion comfort", "", "", "", "", "criterion weight", ""} {
		checkList(t, "Uses of requirement "+strconv.Itoa(i+1), depend.Uses(x, "require "+strconv.Itoa(i+1)), want)
	}
	x.Criteria = append(x.Criteria, api.Criterion{})
	checkList(t, "Uses of a requirement without a name", depend.Uses(x, "require 5"), "criterion ")
}

// P7.1: in a tender that is not right, a name can be that of a criterion and of a price; then it stands for both.
func TestUsesOfCriteriaNamedLikePrices(t *testing.T) {
	x := api.Tender{Criteria: []api.Criterion{{Name: "low"}, {Name: "price"}}, Requires: []api.Require{{Name: "price"}}}
	for _, c := range []struct{ formula, ties, ofFormula, ofTies string }{
		{"price", "price", "criterion price, range", "criterion price, range"},
		{"low", "low", "criterion low, range", "criterion low"},
		{"price + low", "price, low", "criterion low, criterion price, range", "criterion low, criterion price, range"},
	} {
		x.Formula, x.Ties = formula(t, c.formula), list(c.ties)
		checkList(t, "Uses of the formula "+c.formula, depend.Uses(x, "formula"), c.ofFormula)
		checkList(t, "Uses of the ties "+c.ties, depend.Uses(x, "ties"), c.ofTies)
	}
	checkList(t, "Uses of the requirement", depend.Uses(x, "require 1"), "criterion price")
}

// P7.1: the chapter's example.
func TestClausesOfTheExample(t *testing.T) {
	x := example(t)
	checkList(t, "Clauses", depend.Clauses(x), "name, lot 1, lot 2, criterion quality, criterion days, require 1, range, formula, ties, most, combos, budget, times")
	checkList(t, "Uses of formula", depend.Uses(x, "formula"), "criterion quality, range")
	checkList(t, "Uses of ties", depend.Uses(x, "ties"), "criterion quality, range")
	checkList(t, "Uses of require 1", depend.Uses(x, "require 1"), "criterion days")
}

// example returns the tender of the chapter's examples.
func example(t *testing.T) api.Tender {
	t.Helper()
	return api.Tender{
		Lots:     []api.Lot{{Id: 1, Most: 100}, {Id: 2, Most: 100}},
		Criteria: []api.Criterion{{Name: "quality", Kind: api.KindGrade, High: 10}, {Name: "days", Kind: api.KindOffer, High: 60, Less: true}},
		Requires: []api.Require{{Name: "days", Rel: "<=", Value: 30}},
		Low:      1, High: 100,
		Formula: formula(t, "quality + 60 * low / price"),
		Ties:    []string{"price", "quality"},
	}
}

// P1 and R3: large tenders are divided soon; results are new memory.
func TestClausesOfLargeTenders(t *testing.T) {
	const size = 20000
	x := large(size)
	clauses := depend.Clauses(x)
	if len(clauses) != 3*size+8 || clauses[size] != "lot "+strconv.Itoa(size-1) || clauses[3*size] != "require "+strconv.Itoa(size) {
		t.Errorf("Clauses: %d of them", len(clauses))
	}
	if uses := depend.Uses(x, "budget"); len(uses) != size+1 || uses[size] != "combos" {
		t.Errorf("Uses of the budget: %d of them", len(uses))
	}
	if uses := depend.Uses(x, "ties"); len(uses) != size {
		t.Errorf("Uses of the ties: %d of them", len(uses))
	}
	checkList(t, "Uses of a requirement", depend.Uses(x, "require "+strconv.Itoa(size)), "criterion n"+strconv.Itoa(size-1))
}

// large returns a tender with so many elements in each list.
func large(size int) api.Tender {
	x := api.Tender{Formula: tower(size, name("n1"))}
	for i := range size {
		n := "n" + strconv.Itoa(i)
		x.Lots = append(x.Lots, api.Lot{Id: i, Most: i})
		x.Criteria = append(x.Criteria, api.Criterion{Name: n, High: i})
		x.Requires = append(x.Requires, api.Require{Name: n, Rel: "<="})
		x.Ties = append(x.Ties, n)
		x.Combos = append(x.Combos, []int{i, size - i})
	}
	return x
}
