package depend_test

import (
	"fmt"
	"math/rand"
	"slices"
	"strconv"
	"strings"
	"testing"

	"probity/api"
	"probity/depend"
	"probity/types"
)

// The following functions state the chapter's words once more, one string at a time.

func clausesInWords(t api.Tender) []string {
	clauses := []string{"name"}
	add := func(c string) {
		if !slices.Contains(clauses, c) {
			clauses = append(clauses, c)
		}
	}
	for _, l := range t.Lots {
		add(fmt.Sprintf("lot %d", l.Id))
	}
	for _, c := range t.Criteria {
		add(fmt.Sprintf("criterion %s", c.Name))
	}
	for i := range t.Requires {
		add(fmt.Sprintf("require %d", i+1))
	}
	for _, c := range strings.Fields("range formula ties most combos budget times") {
		add(c)
	}
	return clauses
}

// requirementOf returns the requirement of a clause, if it is one of the tender's.
func requirementOf(t api.Tender, clause string) (api.Require, bool) {
	for i, r := range t.Requires {
		if clause == "require "+strconv.Itoa(i+1) {
			return r, true
		}
	}
	return api.Require{}, false
}

// contentInWords returns the content of a clause of a tender; %+v writes empty and nil lists in one way.
func contentInWords(t api.Tender, clause string) string {
	for _, l := range t.Lots {
		if clause == fmt.Sprintf("lot %d", l.Id) {
			return fmt.Sprint(l.Most)
		}
	}
	for _, c := range t.Criteria {
		if clause == "criterion "+c.Name {
			return fmt.Sprint(c.Kind, c.Low, c.High, c.Less)
		}
	}
	if r, exists := requirementOf(t, clause); exists {
		return fmt.Sprintf("%q %q %d", r.Name, r.Rel, r.Value)
	}
	return map[string]string{
		"name":    t.Name,
		"range":   fmt.Sprint(t.Low, t.High),
		"formula": fmt.Sprintf("%+v", t.Formula),
		"ties":    fmt.Sprintf("%q", t.Ties),
		"most":    fmt.Sprint(t.Most),
		"combos":  fmt.Sprint(t.Combos),
		"budget":  fmt.Sprint(t.Budget),
		"times":   fmt.Sprint(t.Times),
	}[clause]
}

// usesInWords reports whether one clause of a tender uses another one.
func usesInWords(t api.Tender, clause, other string) bool {
	lot, isLot := strings.CutPrefix(other, "lot ")
	name, isCriterion := strings.CutPrefix(other, "criterion ")
	if r, exists := requirementOf(t, clause); exists {
		return isCriterion && r.Name == name
	}
	switch clause {
	case "formula":
		names := types.Names(t.Formula)
		return isCriterion && slices.Contains(names, name) || other == "range" && (slices.Contains(names, "price") || slices.Contains(names, "low"))
	case "ties":
		return isCriterion && slices.Contains(t.Ties, name) || other == "range" && slices.Contains(t.Ties, "price")
	case "most":
		return isLot
	case "budget":
		return isLot || other == "combos"
	case "combos":
		id, _ := strconv.Atoi(lot)
		return isLot && slices.ContainsFunc(t.Combos, func(combo []int) bool { return slices.Contains(combo, id) })
	}
	return false
}

// usedInWords returns the clauses of a tender that a clause uses.
func usedInWords(t api.Tender, clause string) []string {
	all := clausesInWords(t)
	if !slices.Contains(all, clause) {
		return nil
	}
	return slices.DeleteFunc(all, func(other string) bool { return !usesInWords(t, clause, other) })
}

func bothInWords(old, next api.Tender) []string {
	both := clausesInWords(next)
	for _, c := range clausesInWords(old) {
		if !slices.Contains(both, c) {
			both = append(both, c)
		}
	}
	return both
}

func isChangedInWords(old, next api.Tender, clause string) bool {
	was, is := slices.Contains(clausesInWords(old), clause), slices.Contains(clausesInWords(next), clause)
	return was != is || contentInWords(old, clause) != contentInWords(next, clause)
}

func isAffectedInWords(old, next api.Tender, clause string) bool {
	isAffected := func(used string) bool { return isAffectedInWords(old, next, used) }
	return isChangedInWords(old, next, clause) ||
		slices.ContainsFunc(usedInWords(old, clause), isAffected) ||
		slices.ContainsFunc(usedInWords(next, clause), isAffected)
}

func touchesInWords(old, next api.Tender, lots []int) bool {
	return slices.ContainsFunc(bothInWords(old, next), func(c string) bool {
		lot, isLot := strings.CutPrefix(c, "lot ")
		counts := isLot && slices.ContainsFunc(lots, func(id int) bool { return lot == strconv.Itoa(id) }) ||
			strings.HasPrefix(c, "criterion ") || strings.HasPrefix(c, "require ") || c == "range" || c == "formula" || c == "ties"
		return counts && isAffectedInWords(old, next, c)
	})
}

// pick returns one of some values.
func pick[T any](r *rand.Rand, values ...T) T { return values[r.Intn(len(values))] }

// some returns up to so many values.
func some[T any](r *rand.Rand, most int, value func() T) []T {
	var list []T
	for range r.Intn(most + 1) {
		list = append(list, value())
	}
	return list
}

func randomFormula(r *rand.Rand, depth int) api.Expr {
	if depth == 0 || r.Intn(3) == 0 {
		return pick(r, num(1, 1), num(2, 4), name(randomName(r)), name("price"), name("low"), api.Expr{})
	}
	e := api.Expr{Op: pick(r, "+", "-", "max", "^")}
	for range pick(r, 2, 2, 2, 2, 2, 1, 3) {
		e.Args = append(e.Args, randomFormula(r, depth-1))
	}
	return e
}

func randomName(r *rand.Rand) string { return pick(r, "a", "b", "c", "d", "price", "low", "", "lot 1") }

// randomTender returns a tender of which hardly anything is right.
func randomTender(r *rand.Rand) api.Tender {
	few := func() int { return r.Intn(3) - 1 }
	return api.Tender{
		Name: pick(r, "", "x"),
		Lots: some(r, 4, func() api.Lot { return api.Lot{Id: few(), Most: few()} }),
		Criteria: some(r, 4, func() api.Criterion {
			return api.Criterion{Name: randomName(r), Kind: r.Intn(2), Low: r.Intn(2), High: r.Intn(2), Less: r.Intn(2) == 0}
		}),
		Requires: some(r, 3, func() api.Require {
			return api.Require{Name: randomName(r), Rel: pick(r, "<=", ">="), Value: r.Intn(2)}
		}),
		Low: r.Intn(2), High: r.Intn(2),
		Formula: randomFormula(r, 2),
		Ties:    some(r, 3, func() string { return randomName(r) }),
		Most:    r.Intn(2),
		Combos:  some(r, 3, func() []int { return some(r, 2, few) }),
		Budget:  r.Intn(2),
		Times:   api.Times{Still: r.Intn(2)},
	}
}

// mixed returns a tender with some fields of one tender, and the others of another one.
func mixed(r *rand.Rand, a, b api.Tender) api.Tender {
	for _, replace := range []func(){
		func() { a.Name = b.Name },
		func() { a.Lots = b.Lots },
		func() { a.Criteria = b.Criteria },
		func() { a.Requires = b.Requires },
		func() { a.Low, a.High = b.Low, b.High },
		func() { a.Formula = b.Formula },
		func() { a.Ties = b.Ties },
		func() { a.Most = b.Most },
		func() { a.Combos = b.Combos },
		func() { a.Budget = b.Budget },
		func() { a.Times = b.Times },
	} {
		if r.Intn(5) == 0 {
			replace()
		}
	}
	return a
}

// eachPair calls do for many pairs of random tenders.
func eachPair(do func(r *rand.Rand, old, next api.Tender)) {
	r := rand.New(rand.NewSource(7))
	for range 3000 {
		old := randomTender(r)
		do(r, old, mixed(r, old, randomTender(r)))
	}
}

// P7.1 to P7.4: all functions, in the chapter's words.
func TestInWords(t *testing.T) {
	touched := 0
	eachPair(func(r *rand.Rand, old, next api.Tender) {
		both := bothInWords(old, next)
		if got := depend.Clauses(next); !slices.Equal(got, clausesInWords(next)) {
			t.Fatalf("Clauses of %+v: %q", next, got)
		}
		for _, c := range both {
			if got := depend.Uses(next, c); !slices.Equal(got, usedInWords(next, c)) {
				t.Fatalf("Uses of %s in %+v: %q", c, next, got)
			}
		}
		changed := slices.DeleteFunc(slices.Clone(both), func(c string) bool { return !isChangedInWords(old, next, c) })
		if got := depend.Changed(old, next); !slices.Equal(got, changed) {
			t.Fatalf("Changed from %+v to %+v: %q, want %q", old, next, got, changed)
		}
		affected := slices.DeleteFunc(slices.Clone(both), func(c string) bool { return !isAffectedInWords(old, next, c) })
		if got := depend.Affected(old, next); !slices.Equal(got, affected) {
			t.Fatalf("Affected from %+v to %+v: %q, want %q", old, next, got, affected)
		}
		lots := some(r, 3, func() int { return r.Intn(4) - 1 })
		touches := depend.Touches(old, next, lots)
		if touches != touchesInWords(old, next, lots) {
			t.Fatalf("Touches from %+v to %+v for %v: %v", old, next, lots, touches)
		}
		if touches {
			touched++
		}
	})
	if touched < 500 || touched > 2900 {
		t.Errorf("%d of 3000 pairs touch something", touched)
	}
}
