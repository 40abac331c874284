package text_test

import (
	"testing"

	"probity/api"
	"probity/text"
)

// P2.5: equal fields, nil or empty, right or not.
func TestEqual(t *testing.T) {
	x, y := everythingMeans(), everythingMeans()
	if !text.Equal(x, y) || !text.Equal(x, x) || !text.Equal(api.Tender{}, api.Tender{}) {
		t.Errorf("equal tenders are not Equal")
	}
	empty := api.Tender{Lots: []api.Lot{}, Criteria: []api.Criterion{}, Requires: []api.Require{}, Ties: []string{}, Combos: [][]int{}, Formula: api.Expr{Args: []api.Expr{}}}
	if !text.Equal(empty, api.Tender{}) || !text.Equal(api.Tender{}, empty) {
		t.Errorf("nil and empty lists differ")
	}
	if !text.Equal(api.Tender{Combos: [][]int{nil, {1}}}, api.Tender{Combos: [][]int{{}, {1}}}) {
		t.Errorf("nil and empty combos differ")
	}
	for _, e := range wrongTenders() {
		x, y := everythingMeans(), everythingMeans()
		e.edit(&x)
		e.edit(&y)
		if !text.Equal(x, y) {
			t.Errorf("tenders with the same fault are not Equal: %s", e.why)
		}
		if z := everythingMeans(); text.Equal(x, z) || text.Equal(z, x) {
			t.Errorf("tenders with and without a fault are Equal: %s", e.why)
		}
	}
}

// P2.5: a difference in any field, and in any element of a list.
func TestEqualDifferences(t *testing.T) {
	for _, e := range []edit{
		{"Name", func(t *api.Tender) { t.Name = "Price" }},
		{"Lots", func(t *api.Tender) { t.Lots = t.Lots[:1] }},
		{"more Lots", func(t *api.Tender) { t.Lots = append(t.Lots, api.Lot{}) }},
		{"order of Lots", func(t *api.Tender) { t.Lots[0], t.Lots[1] = t.Lots[1], t.Lots[0] }},
		{"Id", func(t *api.Tender) { t.Lots[1].Id++ }},
		{"Most of a lot", func(t *api.Tender) { t.Lots[1].Most++ }},
		{"Criteria", func(t *api.Tender) { t.Criteria = t.Criteria[1:] }},
		{"Name of a criterion", func(t *api.Tender) { t.Criteria[1].Name = "days" }},
		{"Kind", func(t *api.Tender) { t.Criteria[0].Kind = api.KindOffer }},
		{"Low of a criterion", func(t *api.Tender) { t.Criteria[0].Low++ }},
		{"High of a criterion", func(t *api.Tender) { t.Criteria[0].High++ }},
		{"Less", func(t *api.Tender) { t.Criteria[0].Less = true }},
		{"Requires", func(t *api.Tender) { t.Requires = nil }},
		{"Name of a requirement", func(t *api.Tender) { t.Requires[2].Name = "a" }},
		{"Rel", func(t *api.Tender) { t.Requires[0].Rel = ">=" }},
		{"Value", func(t *api.Tender) { t.Requires[0].Value++ }},
		{"Low", func(t *api.Tender) { t.Low++ }},
		{"High", func(t *api.Tender) { t.High++ }},
		{"Op", func(t *api.Tender) { t.Formula.Op = "+" }},
		{"inner Op", func(t *api.Tender) { t.Formula.Args[0].Op = "max" }},
		{"inner Num", func(t *api.Tender) { t.Formula.Args[1].Args[0].Num.Num++ }},
		{"inner Den", func(t *api.Tender) { t.Formula.Args[1].Args[0].Num.Den++ }},
		{"inner Name", func(t *api.Tender) { t.Formula.Args[0].Args[0].Args[1].Name = "low" }},
		{"Args", func(t *api.Tender) { t.Formula.Args = t.Formula.Args[:1] }},
		{"no Args", func(t *api.Tender) { t.Formula.Args = nil }},
		{"Args of a name", func(t *api.Tender) { t.Formula.Args[1].Args[1].Args = make([]api.Expr, 1) }},
		{"order of Args", func(t *api.Tender) { a := t.Formula.Args; a[0], a[1] = a[1], a[0] }},
		{"Ties", func(t *api.Tender) { t.Ties = t.Ties[1:] }},
		{"order of Ties", func(t *api.Tender) { t.Ties[0], t.Ties[1] = t.Ties[1], t.Ties[0] }},
		{"Most", func(t *api.Tender) { t.Most++ }},
		{"Combos", func(t *api.Tender) { t.Combos = t.Combos[:1] }},
		{"a combo", func(t *api.Tender) { t.Combos[1] = t.Combos[1][:2] }},
		{"a lot of a combo", func(t *api.Tender) { t.Combos[1][2]++ }},
		{"Budget", func(t *api.Tender) { t.Budget++ }},
		{"Questions", func(t *api.Tender) { t.Times.Questions++ }},
		{"Bids", func(t *api.Tender) { t.Times.Bids++ }},
		{"Grades", func(t *api.Tender) { t.Times.Grades++ }},
		{"Prices", func(t *api.Tender) { t.Times.Prices++ }},
		{"Still", func(t *api.Tender) { t.Times.Still++ }},
	} {
		x, y := everythingMeans(), everythingMeans()
		e.edit(&y)
		if text.Equal(x, y) || text.Equal(y, x) {
			t.Errorf("tenders that differ in %s are Equal", e.why)
		}
	}
}

// sharing returns an expression in which each part is both arguments of the one around it.
func sharing(levels int, innermost string) api.Expr {
	e := name(innermost)
	for range levels {
		e = apply("+", e, e)
	}
	return e
}

// looping returns an expression that contains itself, after so many parts with other names.
func looping(length int) api.Expr {
	first := []api.Expr{{Op: "+", Name: "loop"}}
	last := first
	for range length - 1 {
		last[0].Args = []api.Expr{{Op: "+", Name: "loop"}}
		last = last[0].Args
	}
	last[0].Args = first
	return first[0]
}

// P2.5 and P1: Equal ends for deep formulas, and for those with lists that share memory.
func TestEqualEnds(t *testing.T) {
	with := func(e api.Expr) api.Tender { return api.Tender{Formula: e} }
	broken := looping(3)
	broken.Args[0].Args[0].Args = nil
	for _, c := range []struct {
		a, b api.Expr
		want bool
	}{
		{tower(1 << 17), tower(1 << 17), true},
		{tower(1 << 17), tower(1<<17 + 1), false},
		{sharing(100, "a"), sharing(100, "a"), true},
		{sharing(100, "a"), sharing(100, "b"), false},
		{sharing(100, "a"), sharing(101, "a"), false},
		{looping(2), looping(3), true},
		{looping(1), broken, false},
	} {
		if got := text.Equal(with(c.a), with(c.b)); got != c.want {
			t.Errorf("Equal: %v, want %v", got, c.want)
		}
	}
}
