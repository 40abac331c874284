package prove_test

import (
	"math/rand"
	"strings"
	"testing"

	"probity/api"
	"probity/eval"
	"probity/prove"
	"probity/ratio"
	"probity/text"
	"probity/types"
)

// enough is the work with which small tenders have no gap.
const enough = 1 << 18

// lines are the lines of a tender that play no part in claims.
const lines = "tender t\nlot 1 most 1000000000\nbudget 9\ntimes 1 2 3 4 5\n"

// parsed returns a sound tender, from the lines that play a part.
func parsed(t *testing.T, more ...string) api.Tender {
	t.Helper()
	x, at, err := text.Parse(lines + strings.Join(more, "\n"))
	if err != api.OK {
		t.Fatalf("%q has at %d the error %d", more, at, err)
	}
	if clause, err := types.Check(x); err != api.OK {
		t.Fatalf("%q has in the clause %q the error %d", more, clause, err)
	}
	return x
}

// example returns the tender of the chapter's examples.
func example(t *testing.T, formula string, ties string) api.Tender {
	t.Helper()
	return parsed(t, "price 1 3", "criterion c grade 0 2", "tie "+ties, "formula "+formula)
}

func offer(price int, values ...api.Value) api.Entry {
	return api.Entry{Price: price, Values: values}
}

func valued(name string, n int) api.Value { return api.Value{Name: name, N: n} }

// claim is a function of the package that decides one, with its number.
type claim struct {
	number int
	decide func(t api.Tender, work int) api.Verdict
	holds  func(t api.Tender) bool
}

func claims() []claim {
	return []claim{{1, prove.Monotone, isMonotone}, {2, prove.Stable, isStable}, {3, prove.Decided, isDecided}}
}

// criterionOf returns the criterion with a name, where price is one for which less is better.
func criterionOf(t api.Tender, name string) api.Criterion {
	for _, c := range t.Criteria {
		if c.Name == name {
			return c
		}
	}
	return api.Criterion{Name: "price", Low: t.Low, High: t.High, Less: true}
}

func namesOf(t api.Tender) []string {
	names := []string{"price"}
	for _, c := range t.Criteria {
		names = append(names, c.Name)
	}
	return names
}

func number(x api.Entry, name string) int {
	for _, v := range x.Values {
		if v.Name == name {
			return v.N
		}
	}
	return x.Price
}

// differences returns the names in which two entries differ.
func differences(t api.Tender, x, y api.Entry) []string {
	var names []string
	for _, name := range namesOf(t) {
		if number(x, name) != number(y, name) {
			names = append(names, name)
		}
	}
	return names
}

// isBetter reports whether x is better than y in a name.
func isBetter(t api.Tender, name string, x, y api.Entry) bool {
	if criterionOf(t, name).Less {
		x, y = y, x
	}
	return number(x, name) > number(y, name)
}

// allEntries returns the entries of a tender.
func allEntries(t api.Tender) []api.Entry {
	var all []api.Entry
	for price := t.Low; price <= t.High; price++ {
		all = append(all, offer(price))
	}
	for _, c := range t.Criteria {
		var longer []api.Entry
		for _, x := range all {
			for n := c.Low; n <= c.High; n++ {
				longer = append(longer, offer(x.Price, append(append([]api.Value{}, x.Values...), valued(c.Name, n))...))
			}
		}
		all = longer
	}
	return all
}

// signs returns how the points of two entries compare for each number low for which both have points.
func signs(t api.Tender, x, y api.Entry) map[int]int {
	all := map[int]int{}
	for low := t.Low; low <= x.Price && low <= y.Price; low++ {
		p, err := eval.Points(t, x, low)
		q, other := eval.Points(t, y, low)
		if err == api.OK && other == api.OK {
			all[low] = ratio.Cmp(p, q)
		}
	}
	return all
}

// forAllPairs reports whether something holds for all ordered pairs of entries.
func forAllPairs(t api.Tender, holds func(x, y api.Entry) bool) bool {
	all := allEntries(t)
	for _, x := range all {
		for _, y := range all {
			if !holds(x, y) {
				return false
			}
		}
	}
	return true
}

// isMonotone is claim 1 word by word.
func isMonotone(t api.Tender) bool {
	return forAllPairs(t, func(x, y api.Entry) bool {
		if names := differences(t, x, y); len(names) != 1 || !isBetter(t, names[0], x, y) {
			return true
		}
		for _, sign := range signs(t, x, y) {
			if sign < 0 {
				return false
			}
		}
		return true
	})
}

// isStable is claim 2 word by word.
func isStable(t api.Tender) bool {
	return forAllPairs(t, func(x, y api.Entry) bool {
		found := map[int]bool{}
		for _, sign := range signs(t, x, y) {
			found[sign] = true
		}
		return len(found) <= 1
	})
}

// isDecided is claim 3 word by word.
func isDecided(t api.Tender) bool {
	return forAllPairs(t, func(x, y api.Entry) bool {
		names := differences(t, x, y)
		if len(names) == 0 || tiesDecide(t, names) {
			return true
		}
		for _, sign := range signs(t, x, y) {
			if sign == 0 {
				return false
			}
		}
		return true
	})
}

func tiesDecide(t api.Tender, names []string) bool {
	for _, tie := range t.Ties {
		for _, name := range names {
			if tie == name {
				return true
			}
		}
	}
	return false
}

// combinations returns the combinations of a small tender.
func combinations(t api.Tender) int {
	product := len(allEntries(t))
	for _, name := range types.Names(t.Formula) {
		if name == "low" {
			product *= t.High - t.Low + 1
		}
	}
	return product
}

// partial is a formula whose value fits for the numbers 0 and 2 of a name, but of which the sum of two with different factors does not fit for 1.
func partial(name, factor string) string {
	return "1 / (1 + " + name + " * (2 - " + name + ") * " + factor + ")"
}

// randomFormula returns a formula without a unit about price, low, c and d.
func randomFormula(r *rand.Rand, depth int) string {
	atoms := []string{
		"c", "d", "c", "d", "1", "2", "0.5", "price / 3", "low / price", "low / price", "low / 2", "low / 2", "price / low", "(3 - price) / 3", "(low - 2) / 2",
		"(c - 1)", "(1 - d)", partial("c", "249999999.75"), partial("d", "499999999.75"),
	}
	if depth == 0 || r.Intn(5) == 0 {
		return atoms[r.Intn(len(atoms))]
	}
	a, b := randomFormula(r, depth-1), randomFormula(r, depth-1)
	operators := []string{"+", "+", "-", "*", "/", "min", "max"}
	op := operators[r.Intn(len(operators))]
	if len(op) == 3 {
		return op + "(" + a + ", " + b + ")"
	}
	return "(" + a + ") " + op + " (" + b + ")"
}

func oneOf(r *rand.Rand, texts ...string) string { return texts[r.Intn(len(texts))] }

// randomTender returns a sound tender with at most 400 combinations.
func randomTender(r *rand.Rand) api.Tender {
	for {
		x, _, err := text.Parse(lines + "formula " + randomFormula(r, 1+r.Intn(3)) +
			oneOf(r, "\nprice 1 3", "\nprice 1 3", "\nprice 0 2", "\nprice 2 2", "\nprice 1 4") +
			oneOf(r, "\ncriterion c grade 0 2", "\ncriterion c offer 0 2 less", "\ncriterion c grade 1 2", "\ncriterion c grade 1 1") +
			oneOf(r, "\ncriterion d grade 0 2", "\ncriterion d offer 0 2 less", "\ncriterion d offer 0 1", "\ncriterion d offer 1 1 less") +
			oneOf(r, "", "\ntie c", "\ntie price", "\ntie d price", "\ntie c d", "\ntie price c d"))
		if err != api.OK {
			continue
		}
		if _, err := types.Check(x); err == api.OK && combinations(x) <= 400 {
			return x
		}
	}
}
