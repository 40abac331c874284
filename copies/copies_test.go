package copies_test

import (
	"reflect"
	"slices"
	"testing"
	"unsafe"

	"probity/api"
	"probity/copies"
	"probity/text"
)

const chairs = "tender Chairs\nlot 1 most 500\nlot 2 most 400\ncriterion speed offer 1 5 less\nrequire speed <= 4\nprice 1 500\n" +
	"formula 0.6 * low / price + speed\ntie price speed\nmost 2\ncombo 1 2\nbudget 900\ntimes 10 20 30 40 5\n"

func parsed(t *testing.T) api.Tender {
	t.Helper()
	x, at, err := text.Parse(chairs)
	if err != api.OK {
		t.Fatalf("Parse: error %d at %d", err, at)
	}
	return x
}

// R3: a copy is equal, and has memory of its own.
func TestTender(t *testing.T) {
	x := parsed(t)
	y := copies.Tender(x)
	if !reflect.DeepEqual(x, y) {
		t.Fatalf("the copy is %+v, want %+v", y, x)
	}
	names := [][2]string{{x.Name, y.Name}, {x.Criteria[0].Name, y.Criteria[0].Name}, {x.Requires[0].Name, y.Requires[0].Name}, {x.Requires[0].Rel, y.Requires[0].Rel}, {x.Ties[0], y.Ties[0]}, {x.Formula.Op, y.Formula.Op}}
	for _, pair := range names {
		if unsafe.StringData(pair[0]) == unsafe.StringData(pair[1]) {
			t.Errorf("%q shares memory", pair[0])
		}
	}
	y.Lots[0].Id, y.Criteria[0].Name, y.Requires[0].Value, y.Ties[0], y.Combos[0][0] = 9, "pace", 9, "pace", 9
	y.Combos = append(y.Combos[:0], nil)
	y.Formula.Args[0].Args[0].Op, y.Formula.Args[1].Name = "changed", "changed"
	if !reflect.DeepEqual(x, parsed(t)) {
		t.Errorf("the argument has changed to %+v", x)
	}
}

// R3: lists that share memory in a tender share none in its copy.
func TestTenderWithSharedLists(t *testing.T) {
	args := []api.Expr{{Op: "name", Name: "low"}, {Op: "name", Name: "price"}}
	combo := []int{1, 2, 3}
	x := api.Tender{
		Combos:  [][]int{combo, combo[:2], combo[1:], nil, {}},
		Formula: api.Expr{Op: "+", Args: []api.Expr{{Op: "/", Args: args}, {Op: "*", Args: args}}},
	}
	y := copies.Tender(x)
	y.Combos[0][1], y.Combos[1] = 7, append(y.Combos[1], 8)
	y.Formula.Args[0].Args[0].Name = "changed"
	if !slices.Equal(y.Combos[0], []int{1, 7, 3}) || !slices.Equal(y.Combos[1], []int{1, 2, 8}) || !slices.Equal(y.Combos[2], []int{2, 3}) || len(y.Combos) != 5 || len(y.Combos[3])+len(y.Combos[4]) != 0 {
		t.Errorf("combos %v", y.Combos)
	}
	if y.Formula.Args[1].Args[0].Name != "low" || args[0].Name != "low" || combo[1] != 2 {
		t.Errorf("formula %+v", y.Formula)
	}
}

// R1: zero tenders and formulas stay as they are, nil or empty.
func TestNothing(t *testing.T) {
	empty := api.Tender{Lots: []api.Lot{}, Criteria: []api.Criterion{}, Requires: []api.Require{}, Ties: []string{}, Combos: [][]int{}, Formula: api.Expr{Args: []api.Expr{}}}
	for _, x := range []api.Tender{{}, empty} {
		if y := copies.Tender(x); !text.Equal(x, y) {
			t.Errorf("the copy is %+v, want %+v", y, x)
		}
	}
	if e := copies.Formula(api.Expr{}); !reflect.DeepEqual(e, api.Expr{}) {
		t.Errorf("the copy of no formula is %+v", e)
	}
}

// P1: copies of formulas that cannot be written out end, and have the same parts.
func TestVastFormulas(t *testing.T) {
	self := make([]api.Expr, 2)
	self[0], self[1] = api.Expr{Op: "+", Args: self}, api.Expr{Op: "-", Args: self[:1]}
	shared, deep := api.Expr{Op: "name", Name: "low"}, api.Expr{Op: "name", Name: "low"}
	for range 100 {
		shared = api.Expr{Op: "+", Args: []api.Expr{shared, shared}}
	}
	for range 200000 {
		deep = api.Expr{Op: "+", Args: []api.Expr{deep}}
	}
	for why, e := range map[string]api.Expr{"containing itself": self[1], "2^100 parts": shared, "200000 levels": deep} {
		x := api.Tender{Formula: e}
		y := copies.Tender(x)
		if !text.Equal(x, y) {
			t.Errorf("%s: the copy has other parts", why)
		}
		if &x.Formula.Args[0] == &y.Formula.Args[0] || len(y.Formula.Args[0].Args) > 0 && &x.Formula.Args[0].Args[0] == &y.Formula.Args[0].Args[0] {
			t.Errorf("%s: the copy shares memory with its argument", why)
		}
	}
}
