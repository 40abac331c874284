package types_test

import (
	"reflect"
	"strings"
	"testing"
	"unsafe"

	"probity/api"
	"probity/text"
	"probity/types"
)

type edit struct {
	why    string
	change func(t *testing.T, x *api.Tender)
}

func setFormula(s string) edit {
	return edit{"formula " + s, func(t *testing.T, x *api.Tender) { x.Formula = formula(t, s) }}
}

func setTimes(questions, bids, grades, prices, still int) edit {
	return edit{"times", func(t *testing.T, x *api.Tender) {
		x.Times = api.Times{Questions: questions, Bids: bids, Grades: grades, Prices: prices, Still: still}
	}}
}

func set(why string, change func(x *api.Tender)) edit {
	return edit{why, func(t *testing.T, x *api.Tender) { change(x) }}
}

func checkCheck(t *testing.T, clause string, want api.Errno, edits ...edit) {
	t.Helper()
	x := chairs(t)
	why := ""
	for _, e := range edits {
		e.change(t, &x)
		why += e.why + "; "
	}
	if got, err := types.Check(x); got != clause || err != want {
		t.Errorf("Check after %s clause %q, error %d, want %q, error %d", why, got, err, clause, want)
	}
}

// P3.4: tenders without an error.
func TestCheckAccepts(t *testing.T) {
	checkCheck(t, "", api.OK)
	for _, e := range []edit{
		setFormula("comfort"),
		setFormula("7"),
		setFormula("price / 500"),
		setFormula("min(speed, 5) / weight - price / low"),
		setTimes(0, 0, 0, 0, 0),
		setTimes(7, 7, 7, 7, 0),
		setTimes(1, 2, 3, 4, 1000000000),
		set("one price", func(x *api.Tender) { x.Low, x.High = 1, 1 }),
		set("a lot with the least price", func(x *api.Tender) { x.Lots[0].Most = 1 }),
		set("a lot above the prices", func(x *api.Tender) { x.Lots[0].Most = 501 }),
		set("a requirement outside the range", func(x *api.Tender) { x.Requires[0].Value = 1000 }),
		set("two requirements on one name", func(x *api.Tender) { x.Requires[1].Name = "speed" }),
		set("no ties", func(x *api.Tender) { x.Ties = nil }),
		set("no combos", func(x *api.Tender) { x.Combos = nil }),
		set("no requirements", func(x *api.Tender) { x.Requires = nil }),
		set("two equal combos", func(x *api.Tender) { x.Combos[1] = []int{1, 2} }),
		set("no budget", func(x *api.Tender) { x.Budget = 0 }),
		set("a criterion with one value", func(x *api.Tender) { x.Criteria[0].Low = 10 }),
		set("many lots for a bidder", func(x *api.Tender) { x.Most = 1000 }),
	} {
		checkCheck(t, "", api.OK, e)
	}
}

// P3.4: tenders that are not right.
func TestCheckOfWrongTenders(t *testing.T) {
	for _, e := range []edit{
		set("everything zero", func(x *api.Tender) { *x = api.Tender{} }),
		set("no name", func(x *api.Tender) { x.Name = "" }),
		set("no lots", func(x *api.Tender) { x.Lots = nil }),
		set("two lots with an Id", func(x *api.Tender) { x.Lots[1].Id = 1 }),
		set("a lot below 0", func(x *api.Tender) { x.Lots[1].Most = -1 }),
		set("another Kind", func(x *api.Tender) { x.Criteria[0].Kind = 3 }),
		set("two criteria with a name", func(x *api.Tender) { x.Criteria[1].Name = "comfort" }),
		set("a criterion named price", func(x *api.Tender) { x.Criteria[0].Name = "price" }),
		set("a criterion below 0", func(x *api.Tender) { x.Criteria[0].Low = -1 }),
		set("another Rel", func(x *api.Tender) { x.Requires[0].Rel = "<" }),
		set("a great price", func(x *api.Tender) { x.High = 1000000001 }),
		set("no formula", func(x *api.Tender) { x.Formula = api.Expr{} }),
		set("a looping formula", func(x *api.Tender) { x.Formula = looping() }),
		set("a tie twice", func(x *api.Tender) { x.Ties[1] = "comfort" }),
		set("the tie low", func(x *api.Tender) { x.Ties[1] = "low" }),
		set("a combo of one", func(x *api.Tender) { x.Combos[0] = []int{1} }),
		set("a combo with a number twice", func(x *api.Tender) { x.Combos[0] = []int{1, 1} }),
		set("the budget below 0", func(x *api.Tender) { x.Budget = -1 }),
		set("a time below 0", func(x *api.Tender) { x.Times.Still = -1 }),
		set("a long text", func(x *api.Tender) {
			long := name(strings.Repeat("n", 30))
			x.Formula = apply("+", x.Formula, sharing(4, long))
			for len(x.Requires) < 24 {
				x.Requires = append(x.Requires, api.Require{Name: strings.Repeat("n", 30), Rel: "<=", Value: 1000000000})
			}
			for id := range 9 {
				x.Lots = append(x.Lots, api.Lot{Id: 999999000 + id, Most: 1000000000})
				x.Criteria = append(x.Criteria, api.Criterion{Name: strings.Repeat(string(rune('a'+id)), 30), Kind: 1, Low: 999999999, High: 1000000000})
				x.Ties = append(x.Ties, strings.Repeat(string(rune('a'+id)), 30))
			}
			for range 10 {
				x.Combos = append(x.Combos, []int{1000000000, 100000001, 100000002, 100000003, 100000004, 100000005, 100000006, 100000007, 100000008, 100000009, 100000010, 100000011})
			}
		}),
	} {
		checkCheck(t, "", api.ErrArg, e)
	}
}

// faults returns, for each row of the table of P3.4, edits after which it applies, in the order of the rows; edits of different rows can be made together.
func faults() []struct {
	clause string
	err    api.Errno
	edits  []edit
} {
	return []struct {
		clause string
		err    api.Errno
		edits  []edit
	}{
		{"comfort", api.ErrValue, []edit{set("comfort", func(x *api.Tender) { x.Criteria[0].Low = 11 })}},
		{"speed", api.ErrValue, []edit{set("speed", func(x *api.Tender) { x.Criteria[1].High = 0 })}},
		{"weight", api.ErrValue, []edit{set("weight", func(x *api.Tender) { x.Criteria[2].Low = 4 })}},
		{"price", api.ErrValue, []edit{
			set("low price", func(x *api.Tender) { x.Low = 501 }),
			set("high price", func(x *api.Tender) { x.High = 0 }),
		}},
		{"lot", api.ErrValue, []edit{
			set("first lot", func(x *api.Tender) { x.Lots[0].Most = 0 }),
			set("last lot", func(x *api.Tender) { x.Lots[2].Most = 0 }),
			set("a lot below the prices", func(x *api.Tender) { x.Low = max(x.Low, 2) }),
		}},
		{"require", api.ErrName, []edit{
			set("unknown requirement", func(x *api.Tender) { x.Requires[0].Name = "zeal" }),
			set("unknown last requirement", func(x *api.Tender) { x.Requires[1].Name = "Chairs" }),
			set("unknown requirement before a grade", func(x *api.Tender) { x.Requires[0].Name, x.Requires[1].Name = "zeal", "comfort" }),
		}},
		{"require", api.ErrValue, []edit{
			set("required grade", func(x *api.Tender) { x.Requires[0].Name = "comfort" }),
			set("last required grade", func(x *api.Tender) { x.Requires[1].Name = "comfort" }),
			set("required grade before an unknown name", func(x *api.Tender) { x.Requires[0].Name, x.Requires[1].Name = "comfort", "zeal" }),
		}},
		{"formula", api.ErrName, []edit{setFormula("zeal"), setFormula("zeal * (price + comfort)"), setFormula("(1 / 0) + zeal"), setFormula("price * zeal")}},
		{"formula", api.ErrUnit, []edit{
			setFormula("price + comfort"), setFormula("(price + comfort) * zeal"), setFormula("1 / 0 * (price + comfort)"),
			setFormula("price"), setFormula("1 / price"), setFormula("price * low"), setFormula("low / comfort"), setFormula("price * 1000000000 * 1000000000 * 1000000000"),
		}},
		{"formula", api.ErrZero, []edit{setFormula("1 / 0"), setFormula("speed / comfort"), setFormula("1 / (weight - 3) + 1000000000 * 1000000000 * 1000000000")}},
		{"formula", api.ErrRange, []edit{setFormula("1000000000 * 1000000000 * 1000000000"), setFormula("1000000000 * 1000000000 * 1000000000 / comfort")}},
		{"tie", api.ErrName, []edit{
			set("unknown tie", func(x *api.Tender) { x.Ties[0] = "zeal" }),
			set("unknown last tie", func(x *api.Tender) { x.Ties[2] = "Chairs" }),
		}},
		{"combo", api.ErrNone, []edit{
			set("combo", func(x *api.Tender) { x.Combos[0] = []int{3, 1} }),
			set("last combo", func(x *api.Tender) { x.Combos[1] = []int{7, 2, 5} }),
		}},
		{"times", api.ErrValue, []edit{setTimes(21, 20, 30, 40, 50), setTimes(10, 31, 30, 40, 50), setTimes(10, 20, 41, 40, 50), setTimes(10, 9, 30, 40, 50), setTimes(1, 0, 1, 1, 1)}},
	}
}

// P3.4: each error alone.
func TestCheckFaults(t *testing.T) {
	for _, f := range faults() {
		for _, e := range f.edits {
			checkCheck(t, f.clause, f.err, e)
		}
	}
}

// P3.4: of two errors the first one in the order of the table; a tender that is not right has no other one.
func TestCheckFaultsInOrder(t *testing.T) {
	all := faults()
	for i, first := range all {
		for _, e := range first.edits {
			for _, second := range all[i+1:] {
				if first.clause == second.clause {
					continue
				}
				for _, later := range second.edits {
					checkCheck(t, first.clause, first.err, e, later)
				}
			}
			checkCheck(t, "", api.ErrArg, e, set("no budget", func(x *api.Tender) { x.Budget = -1 }))
		}
	}
}

// P3.4 says "criteria in order": the first one with a fault is the clause.
func TestCheckCriteriaInOrder(t *testing.T) {
	swap := set("other order", func(x *api.Tender) { x.Criteria[0], x.Criteria[2] = x.Criteria[2], x.Criteria[0] })
	wrong := set("all wrong", func(x *api.Tender) {
		for i := range x.Criteria {
			x.Criteria[i].Low = 1000
		}
	})
	checkCheck(t, "comfort", api.ErrValue, wrong)
	checkCheck(t, "weight", api.ErrValue, wrong, swap)
	checkCheck(t, "times", api.ErrValue, swap, setTimes(10, 20, 41, 40, 50), set("named like a clause", func(x *api.Tender) { x.Criteria[1].Name, x.Requires[0].Name = "lot", "lot" }))
	checkCheck(t, "lot", api.ErrValue, wrong, set("named like a clause", func(x *api.Tender) { x.Criteria[0].Name = "lot" }))
}

// R3: the tender stays as it is, and the clause is new memory.
func TestCheckOwnership(t *testing.T) {
	x := chairs(t)
	x.Criteria[0].Low = 11
	x.Criteria[0].Name = strings.Clone("comfort")
	same := chairs(t)
	same.Criteria[0].Low = 11
	clause, err := types.Check(x)
	if clause != "comfort" || err != api.ErrValue || unsafe.StringData(clause) == unsafe.StringData(x.Criteria[0].Name) {
		t.Errorf("Check: %q, error %d, or shared memory", clause, err)
	}
	if !text.Equal(x, same) || !reflect.DeepEqual(x, same) {
		t.Errorf("Check has changed its argument: %v", x)
	}
}
