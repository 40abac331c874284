package depend_test

import (
	"math/rand"
	"reflect"
	"slices"
	"testing"

	"probity/api"
	"probity/depend"
	"probity/score"
	"probity/text"
)

func sorted(list []string) []string { return slices.Sorted(slices.Values(list)) }

// contains reports whether all elements of one list are in another one.
func contains(list, part []string) bool {
	return !slices.ContainsFunc(part, func(x string) bool { return !slices.Contains(list, x) })
}

// P7.5: between a tender and itself nothing is changed, affected or touched.
func TestNothingChangesByItself(t *testing.T) {
	eachPair(func(r *rand.Rand, x, _ api.Tender) {
		if changed, affected := depend.Changed(x, x), depend.Affected(x, x); len(changed) != 0 || len(affected) != 0 || depend.Touches(x, x, []int{-1, 0, 1}) {
			t.Fatalf("%+v changes %q and affects %q", x, changed, affected)
		}
	})
}

// P7.5: what is changed and affected is the same in both directions, each clause once; what is affected contains what is changed.
func TestBothDirections(t *testing.T) {
	eachPair(func(r *rand.Rand, old, next api.Tender) {
		changed, affected := depend.Changed(old, next), depend.Affected(old, next)
		if back := depend.Changed(next, old); !slices.Equal(sorted(changed), sorted(back)) {
			t.Fatalf("Changed from %+v to %+v: %q, and back %q", old, next, changed, back)
		}
		if back := depend.Affected(next, old); !slices.Equal(sorted(affected), sorted(back)) {
			t.Fatalf("Affected from %+v to %+v: %q, and back %q", old, next, affected, back)
		}
		if len(slices.Compact(sorted(affected))) != len(affected) || !contains(affected, changed) {
			t.Fatalf("from %+v to %+v %q is changed, and %q affected", old, next, changed, affected)
		}
		if lots := []int{r.Intn(3) - 1}; depend.Touches(old, next, lots) != depend.Touches(next, old, lots) {
			t.Fatalf("Touches from %+v to %+v, and back", old, next)
		}
	})
}

// P7.5: a clause that is not affected stands in both tenders with the same content, and uses in both the same clauses, which are not affected.
func TestClausesThatAreNotAffected(t *testing.T) {
	eachPair(func(r *rand.Rand, old, next api.Tender) {
		affected := depend.Affected(old, next)
		for _, c := range bothInWords(old, next) {
			if slices.Contains(affected, c) {
				continue
			}
			uses := depend.Uses(next, c)
			if isChangedInWords(old, next, c) || !slices.Equal(sorted(uses), sorted(depend.Uses(old, c))) {
				t.Fatalf("from %+v to %+v %s is not affected", old, next, c)
			}
			if slices.ContainsFunc(uses, func(used string) bool { return slices.Contains(affected, used) }) {
				t.Fatalf("from %+v to %+v %s is not affected, but uses %q", old, next, c, uses)
			}
		}
	})
}

// T2: bids for lots that an amendment does not touch are ranked as before.
func TestRanksOfUntouchedLots(t *testing.T) {
	r := rand.New(rand.NewSource(7))
	edits := amendments(t)
	untouched := 0
	for range 2000 {
		old := edited(t)
		next := edited(t, edits[r.Intn(len(edits))].edit)
		if text.Print(next) == "" {
			continue
		}
		bids := randomBids(r)
		for _, l := range old.Lots {
			if depend.Touches(old, next, []int{l.Id}) {
				continue
			}
			untouched++
			before, err := score.Rank(old, l.Id, bids)
			after, laterErr := score.Rank(next, l.Id, bids)
			if !slices.Equal(before, after) || err != api.OK || laterErr != api.OK {
				t.Fatalf("lot %d from %+v to %+v: %v (error %d) and %v (error %d)", l.Id, old, next, before, err, after, laterErr)
			}
		}
	}
	if untouched < 500 {
		t.Errorf("only %d lots were not touched", untouched)
	}
}

// randomBids returns bids for the tender chairs, most of which are admitted.
func randomBids(r *rand.Rand) []api.Entry {
	var bids []api.Entry
	for receipt := range 30 {
		bids = append(bids, api.Entry{
			Bidder: 100 - receipt, Lot: pick(r, 1, 2, 7), Receipt: receipt, Price: 1 + r.Intn(501),
			Values: []api.Value{{Name: "comfort", N: r.Intn(11)}, {Name: "speed", N: 1 + r.Intn(5)}, {Name: "weight", N: 4 + r.Intn(6)}},
		})
	}
	return bids
}

// R3: arguments stay as they are, and results are new memory; R4: the same calls have the same results.
func TestArgumentsAndResults(t *testing.T) {
	eachPair(func(r *rand.Rand, old, next api.Tender) {
		sameOld, sameNext := deepCopy(old), deepCopy(next)
		calls := func() [][]string {
			results := [][]string{depend.Clauses(old), depend.Changed(old, next), depend.Affected(old, next)}
			for _, c := range depend.Clauses(old) {
				results = append(results, depend.Uses(old, c))
			}
			return results
		}
		first, want := calls(), calls()
		for _, list := range first {
			for i := range list[:cap(list)] {
				list[:cap(list)][i] = "x"
			}
		}
		if !reflect.DeepEqual(calls(), want) {
			t.Fatalf("other results from %+v to %+v", old, next)
		}
		lots := []int{1, 0}
		depend.Touches(old, next, lots)
		if !reflect.DeepEqual(old, sameOld) || !reflect.DeepEqual(next, sameNext) || lots[0] != 1 || lots[1] != 0 {
			t.Fatalf("the arguments have changed: %+v, %+v", old, next)
		}
	})
}

func deepCopy(t api.Tender) api.Tender {
	t.Lots, t.Criteria, t.Requires, t.Ties = slices.Clone(t.Lots), slices.Clone(t.Criteria), slices.Clone(t.Requires), slices.Clone(t.Ties)
	t.Combos = slices.Clone(t.Combos)
	for i := range t.Combos {
		t.Combos[i] = slices.Clone(t.Combos[i])
	}
	t.Formula = deepCopyOf(t.Formula)
	return t
}

func deepCopyOf(e api.Expr) api.Expr {
	e.Args = slices.Clone(e.Args)
	for i := range e.Args {
		e.Args[i] = deepCopyOf(e.Args[i])
	}
	return e
}
