package prove_test

import (
	"math/rand"
	"testing"

	"probity/api"
	"probity/prove"
	"probity/ratio"
	"probity/text"
	"probity/types"
)

// large returns a tender whose combinations no search can try: less is better for the price, d and f.
func large(t *testing.T, formula string) api.Tender {
	t.Helper()
	return parsed(t, "price 1 1000000", "criterion c grade 0 1000000", "criterion d offer 0 1000000 less", "criterion e grade 0 1000000", "criterion f grade 1 1000000 less", "formula "+formula)
}

// P6.3: if all trends are good, Monotone needs no work beyond 1. Each row of the table of trends occurs.
func TestMonotoneByTrends(t *testing.T) {
	for _, formula := range []string{
		"7", "c", "low / 3", "low / 3 + c", "5 / 3 * 2", // none and up
		"c + c", "c + e", "c + 1", "1 + c", "(0 - d) + (0 - f)", "min(c, e)", "max(c, 5)", "min(7, c)", "max(1 - d, c)", "min(0 - price / 2, 3)",
		"c - d", "c - price / 2", "0 - d", "1 - d - f", "c - (d - e)", "c - 5",
		"c * e", "c * c * c", "c * 3", "3 * c", "(1 + c) * e", "c * (low / price)", "c * e / f",
		"(c - 5) * 2", "2 * (c - 5)", "d * (0 - 3)", "(0 - 3) * d", "(d - 5) * (1 - 2)", "(1 - 2) * (d - 5)", "d * (e - 5000000)", "(e - 5000000) * d", "(c - 5) * 0", "0 * (c - 5)", "(c - 5) * (0 * 3)", "0 * (0 - price / 2)", "(0 - price / 2) * 0 - d",
		"c / 3", "c / (d + 1)", "c / f", "low / price", "1 / f", "1 / (d + 1)", "(c - 5) / 3", "(0 - d) / 7", "(c - d) / 2", "(c + 1) / (d * f + 1)", "(c - 5) / (low / 2)", "5 / (2000000 - c)", "(c + e) / (1000001 - c)",
		"(1000000 - price) / 1000000 + c / 10 - d * f",
	} {
		x := large(t, formula)
		for _, work := range []int{1, 2, enough} {
			checkVerdict(t, x, claims()[0], work, api.Proved)
		}
	}
}

// P6.2: of these formulas a better number can have less points: Monotone does not prove them.
func TestNotMonotone(t *testing.T) {
	for _, formula := range []string{
		"d", "price / 2", "0 - c", "5 - c", "f", "c + d", "d - c", "min(c, d)", "max(d, 5)", "c + price / low", "c - (e - d)",
		"d * f", "c * d", "3 * d", "d * e", "c * (0 - 3)", "(0 - 3) * c", "c * (e - 5000000)", "(c - 500000) * (c - 500000)", "(c - 500000) * (e - 500000)", "(c - 500000) * e", "e * (c - 500000)", "(0 - c) * (0 - c) - 1000000 * c",
		"d / 3", "price / low", "1 / (c + 1)", "c / (e + 1)", "(c - 500000) / f", "c / (d - 2000000)", "c / (0 - 3)", "(c - 500000) / (e + 1)", "1 / (0 - d - 1)", "f / (d + 1)", "c / (c * c + 1)",
	} {
		x := large(t, formula)
		for _, work := range []int{1, 100, enough} {
			if v := prove.Monotone(x, work); v.Kind != api.Counter && v.Kind != api.Gap {
				t.Errorf("%s with work %d: %s", formula, work, kindNames[v.Kind])
			}
		}
		checkVerdict(t, x, claims()[0], enough, api.Counter)
	}
}

// trendOf is the table of the chapter, row by row.
func trendOf(x api.Tender, e api.Expr, name string) string {
	if e.Op == "num" || e.Op == "name" && e.Name != name {
		return "none"
	}
	if e.Op == "name" {
		return "up"
	}
	a, b := trendOf(x, e.Args[0], name), trendOf(x, e.Args[1], name)
	aLow, aHigh, _ := types.Range(x, e.Args[0])
	bLow, bHigh, _ := types.Range(x, e.Args[1])
	reverse := map[string]string{"none": "none", "up": "down", "down": "up", "unknown": "unknown"}
	switch e.Op {
	case "-":
		return sumOf(a, reverse[b])
	case "*":
		if a == "none" && b == "none" {
			return "none"
		}
		if aLow.Num >= 0 && bLow.Num >= 0 {
			return sumOf(a, b)
		}
		if b == "none" {
			a, b, aLow, aHigh = b, a, bLow, bHigh
		}
		if a == "none" && aLow.Num >= 0 {
			return b
		}
		if a == "none" && aHigh.Num <= 0 {
			return reverse[b]
		}
		return "unknown"
	case "/":
		if a == "none" && b == "none" {
			return "none"
		}
		if bLow.Num > 0 && b == "none" {
			return a
		}
		if bLow.Num > 0 && aLow.Num >= 0 {
			return sumOf(a, reverse[b])
		}
		return "unknown"
	}
	return sumOf(a, b)
}

func sumOf(a, b string) string {
	if a == "none" {
		return b
	}
	if b == "none" || a == b {
		return a
	}
	return "unknown"
}

func hasGoodTrends(x api.Tender) bool {
	for _, name := range namesOf(x) {
		good := map[string]bool{"none": true, "up": !criterionOf(x, name).Less, "down": criterionOf(x, name).Less}
		if !good[trendOf(x, x.Formula, name)] {
			return false
		}
	}
	return true
}

// largeFormula returns a formula about the names of the large tender.
func largeFormula(r *rand.Rand, depth int) string {
	if depth == 0 || r.Intn(6) == 0 {
		return oneOf(r, "c", "d", "e", "f", "c", "d", "2", "0.5", "low / price", "(0 - price / 2)", "(c - 5)", "(0 - d)", "(e - 2000000)", "(f + 1)", "(0 - 3)")
	}
	a, b := largeFormula(r, depth-1), largeFormula(r, depth-1)
	op := oneOf(r, "+", "-", "-", "*", "*", "/", "/", "min", "max")
	if len(op) == 3 {
		return op + "(" + a + ", " + b + ")"
	}
	return "(" + a + ") " + op + " (" + b + ")"
}

// P6.3: random formulas whose trends are good by the table of the chapter are proved with the least work.
func TestMonotoneByRandomTrends(t *testing.T) {
	r := rand.New(rand.NewSource(63))
	x := large(t, "1")
	good := 0
	for range 20000 {
		x.Formula, _, _ = text.Formula(largeFormula(r, 1+r.Intn(3)))
		if _, err := types.Check(x); err != api.OK || !hasGoodTrends(x) {
			continue
		}
		good++
		if v := prove.Monotone(x, 1); v.Kind != api.Proved {
			t.Errorf("%s: %s", text.PrintFormula(x.Formula), kindNames[v.Kind])
		}
	}
	if good < 1000 {
		t.Errorf("only %d formulas have good trends", good)
	}
}

// P6.2: what is proved by trends is true: a better number has no less points in large tenders, too.
func TestProvedIsTrueForRandomEntries(t *testing.T) {
	r := rand.New(rand.NewSource(62))
	x := large(t, "1")
	compared := 0
	for range 4000 {
		x.Formula, _, _ = text.Formula(largeFormula(r, 1+r.Intn(3)))
		if prove.Monotone(x, 1).Kind != api.Proved {
			continue
		}
		for range 20 {
			a := randomEntry(r, x)
			b, name := withOtherNumber(r, x, a)
			if !isBetter(x, name, a, b) {
				a, b = b, a
			}
			low := 1 + r.Intn(min(a.Price, b.Price))
			if sign, exists := signAt(x, a, b, low); exists {
				compared++
				if sign < 0 {
					t.Errorf("%s is proved, but %v has less points than %v for %d", text.PrintFormula(x.Formula), a, b, low)
				}
			}
		}
	}
	if compared < 1000 {
		t.Errorf("only %d comparisons", compared)
	}
}

// P6.3: without the name low, Stable needs no work beyond 1.
func TestStableWithoutLow(t *testing.T) {
	for _, formula := range []string{"c", "7", "price / 3 + c", "(c - d) * (c - d) * e", "c / f - price / 3 * d"} {
		checkVerdict(t, large(t, formula), claims()[1], 1, api.Proved)
	}
	for _, formula := range []string{"low / price * 1000000 + c", "low / 3 * c - d", "(low - 500000) * c / 3"} {
		if v := prove.Stable(large(t, formula), 1); v.Kind == api.Proved {
			t.Errorf("%s with work 1: Proved", formula)
		}
		checkVerdict(t, large(t, formula), claims()[1], enough, api.Counter)
	}
}

// P6.3: if all names that can differ are ties, Decided needs no work beyond 1.
func TestDecidedByTies(t *testing.T) {
	const price, c, d = "price 1 1000000", "criterion c grade 0 1000000", "criterion d offer 0 1000000"
	for _, x := range [][]string{
		{price, c, d, "tie price c d"},
		{price, c, d, "tie d c price"},
		{"price 7 7", c, d, "tie c d"},
		{price, c, "criterion d offer 5 5", "tie c price"},
		{"price 7 7", "criterion c grade 0 0", d, "tie d"},
		{"price 7 7", "criterion c grade 0 0", "criterion d grade 9 9 less"},
	} {
		for _, formula := range []string{"0", "c", "d - c", "price / 7", "low / price * c"} {
			checkVerdict(t, parsed(t, append(x, "formula "+formula)...), claims()[2], 1, api.Proved)
		}
	}
	for _, x := range [][]string{
		{price, c, d, "tie c d"},
		{price, c, d, "tie price d"},
		{price, c, d, "tie price c"},
		{price, c, d},
		{"price 7 8", c, d, "tie c d"},
		{price, c, "criterion d offer 5 6", "tie c price"},
	} {
		tender := parsed(t, append(x, "formula (c - c) * d / price * low")...)
		if v := prove.Decided(tender, 1); v.Kind == api.Proved {
			t.Errorf("%q with work 1: Proved", x)
		}
		checkVerdict(t, tender, claims()[2], enough, api.Counter)
	}
}

func randomEntry(r *rand.Rand, x api.Tender) api.Entry {
	e := offer(x.Low + r.Intn(x.High-x.Low+1))
	for _, c := range x.Criteria {
		e.Values = append(e.Values, valued(c.Name, c.Low+r.Intn(c.High-c.Low+1)))
	}
	return e
}

// withOtherNumber returns a copy of an entry with another number for one name, if it is possible, and this name.
func withOtherNumber(r *rand.Rand, x api.Tender, e api.Entry) (api.Entry, string) {
	other := randomEntry(r, x)
	place := r.Intn(len(x.Criteria) + 1)
	if place == 0 {
		return offer(other.Price, e.Values...), "price"
	}
	values := append([]api.Value{}, e.Values...)
	values[place-1] = other.Values[place-1]
	return offer(e.Price, values...), x.Criteria[place-1].Name
}

func signAt(x api.Tender, a, b api.Entry, low int) (int, bool) {
	p, first := pointsOf(x, a, low)
	q, second := pointsOf(x, b, low)
	return ratio.Cmp(p, q), first && second
}
