package prove_test

import (
	"math"
	"math/rand"
	"reflect"
	"slices"
	"strings"
	"testing"
	"unsafe"

	"probity/api"
	"probity/prove"
	"probity/text"
)

var kindNames = []string{"none", "Proved", "Counter", "Gap"}

// checkVerdict checks that a verdict is of this kind, and that it has the right entries.
func checkVerdict(t *testing.T, x api.Tender, c claim, work, kind int) {
	t.Helper()
	v := c.decide(x, work)
	if v.Kind != kind {
		t.Errorf("%s, claim %d with work %d: %s %v, want %s", text.Print(x), c.number, work, kindNames[v.Kind], v.Entries, kindNames[kind])
	}
	checkEntries(t, x, c, v)
}

// checkEntries checks the entries of a verdict: P6.2.
func checkEntries(t *testing.T, x api.Tender, c claim, v api.Verdict) {
	t.Helper()
	if v.Kind != api.Counter && len(v.Entries) != 0 {
		t.Errorf("%s, claim %d: entries %v with %s", text.Print(x), c.number, v.Entries, kindNames[v.Kind])
	}
	if v.Kind == api.Counter && !prove.Check(x, c.number, v.Entries) {
		t.Errorf("%s, claim %d: the entries %v show nothing", text.Print(x), c.number, v.Entries)
	}
	for _, e := range v.Entries {
		if e.Bidder != 0 || e.Lot != 0 || e.Receipt != 0 {
			t.Errorf("%s, claim %d: the entry %v is a bid", text.Print(x), c.number, e)
		}
	}
}

// P6.2, P6.3: the examples of the chapter, and edge cases, with at most 400 combinations.
func TestVerdicts(t *testing.T) {
	const proved, counter = api.Proved, api.Counter
	for _, x := range []struct {
		formula, ties string
		want          [3]int
	}{
		{"(3 - price) / 3 + c", "price c", [3]int{proved, proved, proved}},
		{"price / 3 + c", "price c", [3]int{counter, proved, proved}},
		{"low / price + c / 4", "price c", [3]int{proved, counter, proved}},
		{"c", "c", [3]int{proved, proved, counter}},
		{"c", "price", [3]int{proved, proved, proved}},
		{"7", "price c", [3]int{proved, proved, proved}},
		{"7", "c", [3]int{proved, proved, counter}},
		{"7", "price", [3]int{proved, proved, counter}},
		{"low / low", "price c", [3]int{proved, proved, proved}},
		{"low / 3", "price c", [3]int{proved, proved, proved}},
		{"low / 3 * c", "price c", [3]int{proved, proved, proved}},
		{"(low - 1) * c / 3", "price c", [3]int{proved, counter, proved}},
		{"(2 - low) * c / 3", "price c", [3]int{counter, counter, proved}},
		{"low / price", "price", [3]int{proved, proved, counter}},
		{"low / price", "c", [3]int{proved, proved, proved}},
		{"low / price * (c + 1)", "price c", [3]int{proved, proved, proved}},
		{"low / price * c", "c", [3]int{proved, proved, counter}},
		{"price / low", "price c", [3]int{counter, proved, proved}},
		{"c * c - c", "price c", [3]int{proved, proved, proved}},
		{"c * c - 2 * c", "price c", [3]int{counter, proved, proved}},
		{"c * (2 - c)", "price c", [3]int{counter, proved, proved}},
		{"0 * price / 3 + c", "price c", [3]int{proved, proved, proved}},
		{"(price - low) / (price + low)", "price c", [3]int{counter, proved, proved}},
		{"max(price, 2) / 3", "price c", [3]int{counter, proved, proved}},
		{"min(price, 1) / 3", "price c", [3]int{proved, proved, proved}},
		{"(low / 1 - 2) * (low / 1 - 2) * (price / 1 - 2) * c + price / 0.001", "price c", [3]int{counter, counter, proved}}, // for the price 3 alone, and low = 2, but not for 1 and 3
	} {
		for i, c := range claims() {
			checkVerdict(t, example(t, x.formula, x.ties), c, enough, x.want[i])
		}
	}
}

// P6.2: a tender without ties, and one without criteria.
func TestVerdictsWithoutTiesOrCriteria(t *testing.T) {
	for i, c := range claims() {
		checkVerdict(t, parsed(t, "price 1 3", "criterion c grade 0 2", "formula c"), c, enough, [3]int{api.Proved, api.Proved, api.Counter}[i])
		checkVerdict(t, parsed(t, "price 1 3", "formula 1 / 2 * 3 - price / 3"), c, enough, api.Proved)
		checkVerdict(t, parsed(t, "price 1 3", "formula 2"), c, enough, [3]int{api.Proved, api.Proved, api.Counter}[i])
		checkVerdict(t, parsed(t, "price 5 5", "formula low / price"), c, 1, api.Proved)
	}
}

// P6.2: the example of the chapter shows with its entries how the order is reversed.
func TestCounterOfTheExample(t *testing.T) {
	x := example(t, "low / price + c / 4", "price c")
	if l := []api.Entry{offer(2, valued("c", 0)), offer(3, valued("c", 1)), offer(1, valued("c", 0))}; !prove.Check(x, 2, l) {
		t.Errorf("Check does not accept %v", l)
	}
}

// P6.2: a tender that is not sound has no verdict, whatever the work is.
func TestVerdictsOfTendersThatAreNotSound(t *testing.T) {
	wrong := example(t, "c", "c")
	wrong.Criteria[0].Low = 3
	loop := example(t, "c", "c")
	loop.Formula = api.Expr{Op: "+", Args: make([]api.Expr, 2)}
	loop.Formula.Args[0], loop.Formula.Args[1] = loop.Formula, loop.Formula
	money := example(t, "c", "c")
	money.Formula = api.Expr{Op: "name", Name: "price"}
	for _, x := range []api.Tender{{}, wrong, loop, money} {
		for _, work := range []int{math.MinInt, 0, 1, enough, math.MaxInt} {
			for _, c := range claims() {
				if v := c.decide(x, work); v.Kind != 0 || len(v.Entries) != 0 {
					t.Errorf("claim %d with work %d: %v", c.number, work, v)
				}
			}
		}
	}
}

// P6.2: without work there is a gap, even if nothing has to be searched.
func TestGapWithoutWork(t *testing.T) {
	for _, x := range []api.Tender{example(t, "c", "price c"), example(t, "price / 3", "c"), parsed(t, "price 5 5", "formula 1")} {
		for _, work := range []int{0, -1, math.MinInt} {
			for _, c := range claims() {
				checkVerdict(t, x, c, work, api.Gap)
			}
		}
	}
}

// P6.2, P6.3: verdicts of random tenders are those that a search through all pairs of entries finds; with less work they may be gaps, but are not wrong.
func TestVerdictsOfRandomTenders(t *testing.T) {
	r := rand.New(rand.NewSource(6))
	var found [3][2]int
	for range 1000 {
		x := randomTender(r)
		for i, c := range claims() {
			kind, truth := api.Counter, 0
			if c.holds(x) {
				kind, truth = api.Proved, 1
			}
			found[i][truth]++
			checkVerdict(t, x, c, enough, kind)
			checkVerdict(t, x, c, math.MaxInt, kind)
			for _, work := range []int{1, 2, 50, 1000, 20000} {
				v := c.decide(x, work)
				if v.Kind != kind && v.Kind != api.Gap {
					t.Errorf("%s, claim %d with work %d: %s", text.Print(x), c.number, work, kindNames[v.Kind])
				}
				checkEntries(t, x, c, v)
			}
		}
	}
	for i, counts := range found {
		if counts[0] < 50 || counts[1] < 50 {
			t.Errorf("claim %d: false for %d tenders and true for %d", i+1, counts[0], counts[1])
		}
	}
}

// P6.2: where points do not fit, claims are only about the others.
func TestVerdictsWherePointsDoNotFit(t *testing.T) {
	three := []string{"price 1 3", "criterion c grade 0 2", "criterion d grade 0 2", "criterion e grade 0 2"}
	factors := []string{"249999999.75", "499999999.75", "124999999.75"}
	product := partial("c", factors[0]) + " + " + partial("d", factors[1]) + " + " + partial("e", factors[2])
	x := parsed(t, append(three, "tie price c d e", "formula "+product)...)
	for i, c := range claims() {
		checkVerdict(t, x, c, enough, [3]int{api.Counter, api.Proved, api.Proved}[i])
		if truth := c.holds(x); truth != (i != 0) {
			t.Errorf("claim %d is %v", c.number, truth)
		}
	}
	// Only an entry with c = 1 would have less points, and for c = 1 there are none.
	gap := "(" + partial("c", factors[0]) + " + " + partial("c", factors[1]) + " + " + partial("c", factors[2]) + ")"
	middle := parsed(t, "price 1 1", "criterion c grade 0 2", "tie c", "formula c * (c - 1) + "+gap+" * 0.000001")
	steep := parsed(t, "price 1 1", "criterion c grade 0 2", "tie c", "formula c * (c - 1.5) * 1.5 + "+gap)
	for _, x := range []api.Tender{middle, steep} {
		c := claims()[0]
		kind := api.Counter
		if c.holds(x) {
			kind = api.Proved
		}
		checkVerdict(t, x, c, enough, kind)
	}
	if !isMonotone(steep) {
		t.Errorf("the test does not show that points are missing")
	}
}

// P6.3: at most 400 combinations, with the largest formulas and most names, leave no gap.
func TestNoGapWith400Combinations(t *testing.T) {
	for _, x := range [][]string{
		{"price 1 400", "formula c + price / 7 - price * price / price / 9", "criterion c grade 5 5", "tie c"},
		{"price 1 20", "formula low / price + c", "criterion c grade 5 5", "tie c"},
		{"price 1 20", "formula low / price * (c + 1) * low / price", "criterion c grade 5 5", "tie price"},
		{"price 1 4", "formula low / price * c", "criterion c grade 1 25", "tie price c"},
		{"price 1 2", "formula low / price + c / 1000", "criterion c grade 1 100", "tie price c"},
		{"price 1 1", "formula low / price + c * c", "criterion c grade 0 399"},
		{"price 1 1", "formula c * d * e", "criterion c grade 0 19", "criterion d grade 1 2", "criterion e grade 1 10", "tie c d"},
		{"price 1 1", "formula a*b*c*d*e*f*g*h", "criterion a grade 0 1", "criterion b grade 0 1", "criterion c grade 0 1", "criterion d grade 0 1", "criterion e grade 0 1", "criterion f grade 0 1", "criterion g grade 0 1", "criterion h grade 0 1 less"},
		{"price 2 3", "formula (low * low + 1 / 3) / price / price - c * (3 - c) * c / (1 + c) - c * c + d / (price - low + 1) * low", "criterion c offer 0 9 less", "criterion d offer 0 9 less"},
	} {
		x = append(x, "most 1")
		tender, _, err := text.Parse(lines + strings.Join(x, "\n"))
		if err != api.OK {
			t.Fatalf("%q: error %d", x, err)
		}
		if combinations(tender) > 400 {
			t.Fatalf("%q has %d combinations", x, combinations(tender))
		}
		for _, c := range claims() {
			if v := c.decide(tender, enough); v.Kind == api.Gap {
				t.Errorf("%q, claim %d: a gap", x, c.number)
			}
		}
	}
}

// P1, R5: all verdicts end soon, whatever the work and the combinations are; and they are not wrong.
func TestHugeTenders(t *testing.T) {
	huge := []string{"price 0 1000000000"}
	for _, c := range []string{"a", "b", "c", "d", "e", "f", "g", "h", "i", "j", "k", "l"} {
		huge = append(huge, "criterion "+c+" grade 0 1000000000")
	}
	const sum = "((a + b + c + d) + (e + f + g + h) + (i + j + k + l))"
	for _, x := range []struct {
		formula string
		wrong   [3]int // what a verdict may not be
	}{
		{sum, [3]int{api.Counter, api.Counter, api.Proved}},
		{sum + " - low / 7 * a", [3]int{api.Proved, api.Proved, api.Proved}},
		{"(a + l) * (low + 1) / (price + 1)", [3]int{api.Counter, api.Counter, api.Proved}},
		{"d * (1000000000 - d)", [3]int{api.Proved, api.Counter, api.Proved}},
	} {
		tender := parsed(t, append(huge, "formula "+x.formula)...)
		for i, c := range claims() {
			for _, work := range []int{1, enough, api.MaxSearch, math.MaxInt} {
				v := c.decide(tender, work)
				if v.Kind == x.wrong[i] || v.Kind == 0 {
					t.Errorf("%s, claim %d with work %d: %s", x.formula, c.number, work, kindNames[v.Kind])
				}
				checkEntries(t, tender, c, v)
			}
		}
	}
}

// A search finds entries that show the opposite in large tenders, too, because it tries numbers from the whole range of each name.
func TestCountersOfLargeTenders(t *testing.T) {
	names := []string{"price 1 1000000", "criterion quality grade 0 100", "criterion days offer 1 1000 less"}
	for _, x := range []struct {
		formula, ties string
		want          [3]int
	}{
		{"60 * low / price + quality", "price quality", [3]int{api.Proved, api.Counter, api.Counter}},
		{"quality * (100 - quality) - days", "price days", [3]int{api.Counter, api.Proved, api.Counter}},
		{"max(days, 999)", "price quality", [3]int{api.Counter, api.Proved, api.Counter}},
		{"low / price + quality / days", "price quality", [3]int{api.Proved, api.Counter, api.Counter}},
	} {
		for i, c := range claims() {
			checkVerdict(t, parsed(t, append(names, "formula "+x.formula, "tie "+x.ties)...), c, enough, x.want[i])
		}
	}
}

// Numbers for names on which the points do not depend are not all tried: that more than 400 combinations are possible is no gap.
func TestNamesWithoutEffect(t *testing.T) {
	x := parsed(t, "price 1 1000000000", "criterion a grade 0 1000000000", "criterion b grade 0 3", "criterion c grade 0 1000000000 less", "tie price a c", "formula b * (b + 1)")
	for _, c := range claims() {
		checkVerdict(t, x, c, enough, api.Proved)
	}
	x.Ties = x.Ties[1:]
	checkVerdict(t, x, claims()[2], enough, api.Counter)
	low := parsed(t, "price 0 9", "criterion a grade 0 2", "criterion c grade 0 1000000000 less", "tie price a c", "formula low / 9 * a")
	for i, c := range claims() {
		checkVerdict(t, low, c, enough, [3]int{api.Proved, api.Counter, api.Proved}[i])
	}
}

// R3: the tender stays as it is, and the entries are new memory, each for itself.
func TestVerdictOwnership(t *testing.T) {
	for i, formula := range []string{"price / 3 + c", "low / price + c / 4", "0 * c"} {
		x, same := example(t, formula, "c"), example(t, formula, "c")
		c := claims()[i]
		v, again := c.decide(x, enough), c.decide(x, enough)
		if v.Kind != api.Counter || !reflect.DeepEqual(v, again) {
			t.Errorf("%s: %v, and then %v", formula, v, again)
		}
		if !reflect.DeepEqual(x, same) {
			t.Errorf("%s: the tender has changed", formula)
		}
		names := []string{x.Criteria[0].Name}
		for _, e := range append(slices.Clone(v.Entries), again.Entries...) {
			if e.Values[0].N += 100; e.Values[0].N > 110 {
				t.Errorf("%s: entries share their values", formula)
			}
			for _, n := range names {
				if unsafe.StringData(n) == unsafe.StringData(e.Values[0].Name) {
					t.Errorf("%s: names share memory", formula)
				}
			}
			names = append(names, e.Values[0].Name)
		}
	}
}
