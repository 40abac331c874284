package amend_test

import (
	"math/rand"
	"reflect"
	"slices"
	"testing"

	"probity/amend"
	"probity/api"
	"probity/depend"
)

// P8.1: the clauses that were changed, in order, without the name and the times.
func TestMoves(t *testing.T) {
	for _, e := range edits() {
		if got := amend.Moves(chairs(t), edited(t, e)); listed(got) != e.moves {
			t.Errorf("Moves after %s: %q, want %q", e.why, got, e.moves)
		}
	}
}

// P8.1: tenders that are not right have clauses, too.
func TestMovesOfWrongTenders(t *testing.T) {
	for _, c := range []struct {
		old, next api.Tender
		want      string
	}{
		{api.Tender{}, api.Tender{}, ""},
		{api.Tender{}, api.Tender{Name: "x", Times: timesOf(-1, -2, -3, -4, -5)}, ""},
		{api.Tender{Low: -1}, api.Tender{Lots: []api.Lot{{Id: 0}, {Id: 0, Most: 4}}}, "lot 0, range"},
		{api.Tender{Criteria: []api.Criterion{{Name: "name"}, {Name: "times"}}}, api.Tender{Criteria: []api.Criterion{{Name: "lot 1"}}}, "criterion lot 1, criterion name, criterion times"},
		{api.Tender{Requires: make([]api.Require, 2)}, api.Tender{}, "require 1, require 2"},
		{api.Tender{Combos: [][]int{nil}}, api.Tender{Combos: [][]int{}}, "combos"},
		{api.Tender{Ties: []string{}}, api.Tender{}, ""},
	} {
		if got := amend.Moves(c.old, c.next); listed(got) != c.want {
			t.Errorf("Moves from %+v to %+v: %q, want %q", c.old, c.next, got, c.want)
		}
	}
}

// P8.1, in other words, for random tenders, in both directions.
func TestMovesOfRandomTenders(t *testing.T) {
	r := rand.New(rand.NewSource(81))
	lengths := map[int]int{}
	for range 3000 {
		old, next := randomTender(r), randomTender(r)
		var want []string
		for _, clause := range depend.Changed(old, next) {
			if clause != "name" && clause != "times" {
				want = append(want, clause)
			}
		}
		got := amend.Moves(old, next)
		if !slices.Equal(got, want) {
			t.Fatalf("Moves from %+v to %+v: %q, want %q", old, next, got, want)
		}
		lengths[len(got)]++
	}
	if lengths[0] < 20 || len(lengths) < 8 {
		t.Errorf("the lists have the lengths %v", lengths)
	}
}

// P1: formulas that cannot be written out; R3: the result is new memory, and the arguments stay.
func TestMovesOfAnything(t *testing.T) {
	for why, x := range vast() {
		if got := amend.Moves(x, x); len(got) != 0 {
			t.Errorf("Moves of a tender %s and itself: %q", why, got)
		}
		if got := amend.Moves(x, chairs(t)); !slices.Contains(got, "formula") {
			t.Errorf("Moves from a tender %s: %q", why, got)
		}
	}
	old, next := chairs(t), parsed(t, replaced("lot 1 most 7", "budget 8"))
	got := amend.Moves(old, next)
	for i := range got[:cap(got)] {
		got[:cap(got)][i] = "changed"
	}
	if again := amend.Moves(old, next); listed(again) != "lot 1, budget, lot 2, lot 7" {
		t.Errorf("Moves once more: %q", again)
	}
	if !reflect.DeepEqual(old, chairs(t)) || !reflect.DeepEqual(next, parsed(t, replaced("lot 1 most 7", "budget 8"))) {
		t.Errorf("the arguments have changed: %+v, %+v", old, next)
	}
}

// randomTender returns a tender of which hardly anything is right, but whose clauses are often those of others.
func randomTender(r *rand.Rand) api.Tender {
	var x api.Tender
	bit := func() int { return pick(r, 0, 0, 0, 1) }
	for range pick(r, 0, 0, 1, 2) {
		x.Lots = append(x.Lots, api.Lot{Id: bit(), Most: bit()})
		x.Criteria = append(x.Criteria, api.Criterion{Name: pick(r, "a", "name", ""), High: bit()})
	}
	for range pick(r, 0, 0, 1) {
		x.Requires = append(x.Requires, api.Require{Value: bit()})
		x.Combos = append(x.Combos, make([]int, bit()))
	}
	x.Name, x.Ties = pick(r, "", "x"), make([]string, bit())
	x.Low, x.High, x.Most, x.Budget = 0, bit(), bit(), bit()
	x.Formula.Name = pick(r, "", "", "", "a")
	x.Times.Still = bit()
	return x
}
