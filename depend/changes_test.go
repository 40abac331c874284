package depend_test

import (
	"slices"
	"testing"

	"probity/api"
	"probity/depend"
)

// amendment is an edit with what it changes and affects, and whether it touches the lots 1, 2, 7 and no lots.
type amendment struct {
	edit
	changed, affected string
	touches           [4]bool
}

func none() [4]bool { return [4]bool{} }

func all() [4]bool { return [4]bool{true, true, true, true} }

// amendments returns edits of the tender chairs, for each field of it, and for each element of its lists.
func amendments(t *testing.T) []amendment {
	t.Helper()
	return slices.Concat(amendmentsOfNothing(), amendmentsOfLots(), amendmentsOfCriteria(), amendmentsOfRequirements(), amendmentsOfFormulas(t), amendmentsOfTies(), amendmentsOfAwards())
}

// amendmentsOfNothing returns edits that change no content.
func amendmentsOfNothing() []amendment {
	nothing := func(why string, change func(x *api.Tender)) amendment {
		return amendment{edit{why, change}, "", "", none()}
	}
	return []amendment{
		nothing("nothing", func(x *api.Tender) {}),
		nothing("order of lots", func(x *api.Tender) { slices.Reverse(x.Lots) }),
		nothing("order of criteria", func(x *api.Tender) { slices.Reverse(x.Criteria) }),
		nothing("a lot twice", func(x *api.Tender) { x.Lots = append(x.Lots, api.Lot{Id: 2, Most: 1}) }),
		nothing("a criterion twice", func(x *api.Tender) {
			x.Criteria = append(x.Criteria, api.Criterion{Name: "speed", Kind: 9, Low: 8, High: 7})
		}),
		nothing("an empty list instead of nil", func(x *api.Tender) { x.Formula.Args[1].Args[1].Args = []api.Expr{} }),
	}
}

func amendmentsOfLots() []amendment {
	return []amendment{
		{edit{"Most of lot 1", func(x *api.Tender) { x.Lots[0].Most = 499 }}, "lot 1", "lot 1, most, combos, budget", [4]bool{true, false, false, false}},
		{edit{"Most of lot 7", func(x *api.Tender) { x.Lots[2].Most++ }}, "lot 7", "lot 7, most, combos, budget", [4]bool{false, false, true, false}},
		{edit{"Most of two lots", func(x *api.Tender) { x.Lots[2].Most++; x.Lots[1].Most-- }}, "lot 2, lot 7", "lot 2, lot 7, most, combos, budget", [4]bool{false, true, true, false}},
		{edit{"a further lot, which no combo has", func(x *api.Tender) { x.Lots = append([]api.Lot{{Id: 3}}, x.Lots...) }}, "lot 3", "lot 3, most, budget", none()},
		{edit{"without lot 1", func(x *api.Tender) { x.Lots = x.Lots[1:] }}, "lot 1", "most, combos, budget, lot 1", [4]bool{true, false, false, false}},
		{edit{"another Id", func(x *api.Tender) { x.Lots[1].Id = 5 }}, "lot 5, lot 2", "lot 5, most, combos, budget, lot 2", [4]bool{false, true, false, false}},
		{edit{"without lots", func(x *api.Tender) { x.Lots = nil }}, "lot 1, lot 2, lot 7", "most, combos, budget, lot 1, lot 2, lot 7", [4]bool{true, true, true, false}},
		{edit{"another first one of two lots with an Id", func(x *api.Tender) { x.Lots = append([]api.Lot{{Id: 2, Most: 1}}, x.Lots...) }}, "lot 2", "lot 2, most, combos, budget", [4]bool{false, true, false, false}},
		{edit{"a lot that only the old combos have", func(x *api.Tender) { x.Lots[1].Most++; x.Combos = nil }}, "lot 2, combos", "lot 2, most, combos, budget", [4]bool{false, true, false, false}},
	}
}

func amendmentsOfCriteria() []amendment {
	return []amendment{
		{edit{"Kind", func(x *api.Tender) { x.Criteria[0].Kind = api.KindOffer }}, "criterion comfort", "criterion comfort, formula, ties", all()},
		{edit{"Low", func(x *api.Tender) { x.Criteria[1].Low-- }}, "criterion speed", "criterion speed, require 1, require 3", all()},
		{edit{"High", func(x *api.Tender) { x.Criteria[2].High++ }}, "criterion weight", "criterion weight, require 2, ties", all()},
		{edit{"Less", func(x *api.Tender) { x.Criteria[1].Less = false }}, "criterion speed", "criterion speed, require 1, require 3", all()},
		{edit{"all criteria", func(x *api.Tender) {
			for i := range x.Criteria {
				x.Criteria[i].High = 20
			}
		}}, "criterion comfort, criterion speed, criterion weight", "criterion comfort, criterion speed, criterion weight, require 1, require 2, require 3, formula, ties", all()},
		{edit{"a further criterion that nothing uses", func(x *api.Tender) { x.Criteria = append(x.Criteria, api.Criterion{Name: "a"}) }}, "criterion a", "criterion a", all()},
		{edit{"without a criterion", func(x *api.Tender) { x.Criteria = x.Criteria[1:] }}, "criterion comfort", "formula, ties, criterion comfort", all()},
		{edit{"another name", func(x *api.Tender) { x.Criteria[1].Name = "pace" }}, "criterion pace, criterion speed", "criterion pace, require 1, require 3, criterion speed", all()},
		{edit{"another first one of two criteria with a name", func(x *api.Tender) {
			x.Criteria = append([]api.Criterion{{Name: "weight", Kind: api.KindOffer, Low: 3, High: 8}}, x.Criteria...)
		}}, "criterion weight", "criterion weight, require 2, ties", all()},
		{edit{"a criterion named like another clause", func(x *api.Tender) { x.Criteria = append(x.Criteria, api.Criterion{Name: "lot 1"}) }}, "criterion lot 1", "criterion lot 1", all()},
	}
}

func amendmentsOfRequirements() []amendment {
	return []amendment{
		{edit{"Name of a requirement", func(x *api.Tender) { x.Requires[0].Name = "weight" }}, "require 1", "require 1", all()},
		{edit{"Rel", func(x *api.Tender) { x.Requires[1].Rel = "<=" }}, "require 2", "require 2", all()},
		{edit{"Value", func(x *api.Tender) { x.Requires[2].Value-- }}, "require 3", "require 3", all()},
		{edit{"order of requirements", func(x *api.Tender) { r := x.Requires; r[0], r[2] = r[2], r[0] }}, "require 1, require 3", "require 1, require 3", all()},
		{edit{"a further requirement", func(x *api.Tender) { x.Requires = append(x.Requires, x.Requires[0]) }}, "require 4", "require 4", all()},
		{edit{"a further first requirement", func(x *api.Tender) { x.Requires = append([]api.Require{x.Requires[0]}, x.Requires...) }}, "require 2, require 3, require 4", "require 2, require 3, require 4", all()},
		{edit{"without the first requirement", func(x *api.Tender) { x.Requires = x.Requires[1:] }}, "require 1, require 2, require 3", "require 1, require 2, require 3", all()},
		{edit{"without the last requirement", func(x *api.Tender) { x.Requires = x.Requires[:2] }}, "require 3", "require 3", all()},
		{edit{"a criterion that one requirement uses before and another one after", func(x *api.Tender) {
			x.Criteria[2].High++
			x.Requires[0].Name, x.Requires[1].Name = "weight", "speed"
		}}, "criterion weight, require 1, require 2", "criterion weight, require 1, require 2, ties", all()},
		{edit{"the least price", func(x *api.Tender) { x.Low = 2 }}, "range", "range, formula, ties", all()},
		{edit{"the greatest price", func(x *api.Tender) { x.High-- }}, "range", "range, formula, ties", all()},
		{edit{"prices that nothing uses any more", func(x *api.Tender) { x.High--; x.Formula = num(1, 1); x.Ties = nil }}, "range, formula, ties", "range, formula, ties", all()},
	}
}

func amendmentsOfFormulas(t *testing.T) []amendment {
	t.Helper()
	other := func(why string, change func(e *api.Expr)) amendment {
		return amendment{edit{why, func(x *api.Tender) { change(&x.Formula) }}, "formula", "formula", all()}
	}
	return []amendment{
		other("another formula", func(e *api.Expr) { *e = formula(t, "comfort") }),
		other("no formula", func(e *api.Expr) { *e = api.Expr{} }),
		other("a formula with the same value", func(e *api.Expr) { *e = formula(t, "0.6 * low / price + comfort * 0.04") }),
		other("Op", func(e *api.Expr) { e.Op = "-" }),
		other("inner Op", func(e *api.Expr) { e.Args[0].Op = "*" }),
		other("Num", func(e *api.Expr) { e.Num.Num = 1 }),
		other("inner Num", func(e *api.Expr) { e.Args[1].Args[0].Num.Num++ }),
		other("inner Den", func(e *api.Expr) { e.Args[1].Args[0].Num.Den++ }),
		other("a Num that is not canonical", func(e *api.Expr) { n := &e.Args[1].Args[0].Num; n.Num, n.Den = 2*n.Num, 2*n.Den }),
		other("Name", func(e *api.Expr) { e.Name = "comfort" }),
		other("inner Name", func(e *api.Expr) { e.Args[1].Args[1].Name = "speed" }),
		other("order of Args", func(e *api.Expr) { slices.Reverse(e.Args) }),
		other("fewer Args", func(e *api.Expr) { e.Args = e.Args[:1] }),
		other("no Args", func(e *api.Expr) { e.Args = nil }),
		other("more Args", func(e *api.Expr) { e.Args = append(e.Args, num(1, 1)) }),
		other("Args of a name", func(e *api.Expr) { e.Args[1].Args[1].Args = []api.Expr{num(1, 1)} }),
		{edit{"a criterion that the formula no longer uses", func(x *api.Tender) { x.Criteria[0].High++; x.Formula = name("speed"); x.Ties = nil }},
			"criterion comfort, formula, ties", "criterion comfort, formula, ties", all()},
	}
}

func amendmentsOfTies() []amendment {
	other := func(why string, change func(x *api.Tender)) amendment {
		return amendment{edit{why, change}, "ties", "ties", all()}
	}
	return []amendment{
		other("no ties", func(x *api.Tender) { x.Ties = nil }),
		other("order of ties", func(x *api.Tender) { slices.Reverse(x.Ties) }),
		other("fewer ties", func(x *api.Tender) { x.Ties = x.Ties[:2] }),
		other("more ties", func(x *api.Tender) { x.Ties = append(x.Ties, "speed") }),
		other("a tie twice", func(x *api.Tender) { x.Ties = append(x.Ties, "weight") }),
		other("another tie", func(x *api.Tender) { x.Ties[0] = "speed" }),
	}
}

// amendmentsOfAwards returns edits that do not concern the ranking of bids.
func amendmentsOfAwards() []amendment {
	other := func(why, changed, affected string, change func(x *api.Tender)) amendment {
		return amendment{edit{why, change}, changed, affected, none()}
	}
	return []amendment{
		other("Name", "name", "name", func(x *api.Tender) { x.Name = "Tables" }),
		other("no Name", "name", "name", func(x *api.Tender) { x.Name = "" }),
		other("Most", "most", "most", func(x *api.Tender) { x.Most = 0 }),
		other("Budget", "budget", "budget", func(x *api.Tender) { x.Budget-- }),
		other("Questions", "times", "times", func(x *api.Tender) { x.Times.Questions++ }),
		other("Bids", "times", "times", func(x *api.Tender) { x.Times.Bids++ }),
		other("Grades", "times", "times", func(x *api.Tender) { x.Times.Grades++ }),
		other("Prices", "times", "times", func(x *api.Tender) { x.Times.Prices++ }),
		other("Still", "times", "times", func(x *api.Tender) { x.Times.Still++ }),
		other("no combos", "combos", "combos, budget", func(x *api.Tender) { x.Combos = nil }),
		other("an empty combo", "combos", "combos, budget", func(x *api.Tender) { x.Combos = append(x.Combos, nil) }),
		other("order of combos", "combos", "combos, budget", func(x *api.Tender) { slices.Reverse(x.Combos) }),
		other("order in a combo", "combos", "combos, budget", func(x *api.Tender) { slices.Reverse(x.Combos[0]) }),
		other("a further lot in a combo", "combos", "combos, budget", func(x *api.Tender) { x.Combos[1] = append(x.Combos[1], 1) }),
		other("a lot that does not exist in a combo", "combos", "combos, budget", func(x *api.Tender) { x.Combos[1][0] = 8 }),
		other("several", "name, most, combos, budget, times", "name, most, combos, budget, times", func(x *api.Tender) {
			x.Name, x.Most, x.Combos, x.Budget, x.Times = "", 9, nil, 9, api.Times{}
		}),
	}
}

// P7.2: each change of a content, and nothing else.
func TestChanged(t *testing.T) {
	for _, a := range amendments(t) {
		checkList(t, "Changed after "+a.why, depend.Changed(chairs(t), edited(t, a.edit)), a.changed)
	}
}

// P7.3: what is changed, and what uses it in one of the tenders.
func TestAffected(t *testing.T) {
	for _, a := range amendments(t) {
		checkList(t, "Affected by "+a.why, depend.Affected(chairs(t), edited(t, a.edit)), a.affected)
	}
}

// P7.4: what the ranking of bids for some lots depends on.
func TestTouches(t *testing.T) {
	for _, a := range amendments(t) {
		for i, lots := range [][]int{{1}, {2}, {7}, nil} {
			for _, more := range [][]int{nil, {4}, {-1, 4, 4}} {
				lots := slices.Concat(more, lots, more)
				if got := depend.Touches(chairs(t), edited(t, a.edit), lots); got != a.touches[i] {
					t.Errorf("Touches for the lots %v after %s: %v", lots, a.why, got)
				}
			}
		}
		want := a.touches[0] || a.touches[1] || a.touches[2]
		if got := depend.Touches(chairs(t), edited(t, a.edit), []int{7, 1, 2}); got != want {
			t.Errorf("Touches for all lots after %s: %v", a.why, got)
		}
	}
}

// P7.4: criteria and prices count, even if nothing uses them.
func TestTouchesOfUnusedClauses(t *testing.T) {
	unused := edit{"", func(x *api.Tender) { x.Requires, x.Formula, x.Ties = nil, num(1, 1), nil }}
	for _, e := range []edit{
		{"Low", func(x *api.Tender) { x.Low++ }},
		{"High", func(x *api.Tender) { x.High++ }},
		{"a criterion", func(x *api.Tender) { x.Criteria[0].High++ }},
		{"without criteria", func(x *api.Tender) { x.Criteria = nil }},
	} {
		for _, lots := range [][]int{nil, {1}, {4}} {
			if !depend.Touches(edited(t, unused), edited(t, unused, e), lots) {
				t.Errorf("Touches for the lots %v after %s: false", lots, e.why)
			}
		}
	}
	if depend.Touches(edited(t, unused), edited(t, unused), []int{1, 2, 7}) {
		t.Errorf("Touches without a change")
	}
}

// P7.4: lots that only one of the tenders has, and lots with Ids that are not right.
func TestTouchesOtherLots(t *testing.T) {
	further := edited(t, edit{"", func(x *api.Tender) { x.Lots = append(x.Lots, api.Lot{Id: -3}) }})
	for _, c := range []struct {
		lots []int
		want bool
	}{
		{[]int{-3}, true}, {[]int{1, -3}, true}, {[]int{-3, 1}, true}, {[]int{3}, false}, {[]int{1, 2, 7}, false}, {[]int{}, false}, {nil, false},
	} {
		if got := depend.Touches(chairs(t), further, c.lots); got != c.want {
			t.Errorf("Touches for %v, if the lot -3 comes: %v", c.lots, got)
		}
		if got := depend.Touches(further, chairs(t), c.lots); got != c.want {
			t.Errorf("Touches for %v, if the lot -3 goes: %v", c.lots, got)
		}
	}
}

// P7.2 and P7.3: the clauses of the new tender in its order, then those that only the old one has, in its order.
func TestOrderOfChanges(t *testing.T) {
	old := api.Tender{
		Lots:     []api.Lot{{Id: 4}, {Id: 3}, {Id: 2}, {Id: 1}},
		Criteria: []api.Criterion{{Name: "d"}, {Name: "c"}, {Name: "b"}},
		Requires: []api.Require{{Name: "b"}, {Name: "x"}, {Name: "d"}},
	}
	next := api.Tender{
		Name: "x",
		Lots: []api.Lot{{Id: 5}, {Id: 2, Most: 1}, {Id: 3, Most: 1}},
		Criteria: []api.Criterion{
			{Name: "a"}, {Name: "b", Less: true}, {Name: "c"},
		},
		Requires: []api.Require{{Name: "b"}},
		Ties:     []string{"b"},
	}
	checkList(t, "Changed", depend.Changed(old, next), "name, lot 5, lot 2, lot 3, criterion a, criterion b, ties, lot 4, lot 1, criterion d, require 2, require 3")
	checkList(t, "Affected", depend.Affected(old, next), "name, lot 5, lot 2, lot 3, criterion a, criterion b, require 1, ties, most, budget, lot 4, lot 1, criterion d, require 2, require 3")
	checkList(t, "Changed back", depend.Changed(next, old), "name, lot 4, lot 3, lot 2, lot 1, criterion d, criterion b, require 2, require 3, ties, lot 5, criterion a")
	checkList(t, "Affected back", depend.Affected(next, old), "name, lot 4, lot 3, lot 2, lot 1, criterion d, criterion b, require 1, require 2, require 3, ties, most, budget, lot 5, criterion a")
}

// P7.2, P7.3 and P7.4: between the zero tender and another one, everything that the zero one lacks.
func TestChangesOfTheZeroTender(t *testing.T) {
	const later = "lot 1, lot 2, lot 7, criterion comfort, criterion speed, criterion weight, require 1, require 2, require 3"
	checkList(t, "Changed", depend.Changed(api.Tender{}, chairs(t)), chairsClauses)
	checkList(t, "Affected", depend.Affected(api.Tender{}, chairs(t)), chairsClauses)
	checkList(t, "Changed back", depend.Changed(chairs(t), api.Tender{}), "name, range, formula, ties, most, combos, budget, times, "+later)
	checkList(t, "Affected back", depend.Affected(chairs(t), api.Tender{}), "name, range, formula, ties, most, combos, budget, times, "+later)
	if !depend.Touches(api.Tender{}, chairs(t), nil) || !depend.Touches(chairs(t), api.Tender{}, nil) {
		t.Errorf("a tender instead of the zero one touches nothing")
	}
	empty := api.Tender{Lots: []api.Lot{}, Criteria: []api.Criterion{}, Requires: []api.Require{}, Ties: []string{}, Combos: [][]int{}, Formula: api.Expr{Args: []api.Expr{}}}
	checkList(t, "Changed between nil and empty lists", depend.Changed(empty, api.Tender{}), "")
	checkList(t, "Affected between nil and empty lists", depend.Affected(api.Tender{}, empty), "")
	checkList(t, "Changed between nil and empty combos", depend.Changed(api.Tender{Combos: [][]int{{}, {1}}}, api.Tender{Combos: [][]int{nil, {1}}}), "")
}

// P7.2 to P7.4: the chapter's examples.
func TestChangesOfTheExample(t *testing.T) {
	days, prices, lot := example(t), example(t), example(t)
	days.Criteria[1].High = 90
	prices.High = 200
	lot.Lots[1].Most = 50
	checkList(t, "Changed with days", depend.Changed(example(t), days), "criterion days")
	checkList(t, "Affected by days", depend.Affected(example(t), days), "criterion days, require 1")
	checkList(t, "Affected by prices", depend.Affected(example(t), prices), "range, formula, ties")
	if depend.Touches(example(t), lot, []int{1}) || !depend.Touches(example(t), lot, []int{1, 2}) {
		t.Errorf("Touches of the Most of lot 2")
	}
}

// P1: formulas that are deep, share memory or contain themselves, and large tenders, are compared soon.
func TestChangesEnd(t *testing.T) {
	broken := looping(3)
	broken.Args[0].Args[0].Args = nil
	for _, c := range []struct {
		a, b api.Expr
		want string
	}{
		{tower(1<<16, name("a")), tower(1<<16, name("a")), ""},
		{tower(1<<16, name("a")), tower(1<<16, name("b")), "formula"},
		{tower(1<<16, name("a")), tower(1<<16+1, name("a")), "formula"},
		{sharing(100, name("a")), sharing(100, name("a")), ""},
		{sharing(100, name("a")), sharing(100, name("b")), "formula"},
		{sharing(100, name("a")), sharing(101, name("a")), "formula"},
		{looping(1), looping(1), ""},
		{looping(2), looping(3), ""},
		{looping(1), broken, "formula"},
	} {
		checkList(t, "Changed", depend.Changed(api.Tender{Formula: c.a}, api.Tender{Formula: c.b}), c.want)
		checkList(t, "Affected", depend.Affected(api.Tender{Formula: c.b}, api.Tender{Formula: c.a}), c.want)
	}
	const size = 20000
	old, next := large(size), large(size)
	checkList(t, "Changed between equal large tenders", depend.Changed(old, next), "")
	for i := range size {
		next.Lots[i].Id = -i
		next.Criteria[i].High++
	}
	// The lot 0 stays, and the criteria affect requirements and ties.
	if affected := depend.Affected(old, next); len(affected) != 2*(size-1)+size+size+4 {
		t.Errorf("Affected: %d clauses", len(affected))
	}
}
