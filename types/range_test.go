package types_test

import (
	"math"
	"testing"

	"probity/api"
	"probity/ratio"
	"probity/types"
)

func checkRange(t *testing.T, x api.Tender, s, wantLow, wantHigh string) {
	t.Helper()
	low, high, err := types.Range(x, formula(t, s))
	if err != api.OK || ratio.Text(low) != wantLow || ratio.Text(high) != wantHigh {
		t.Errorf("Range of %s: %v to %v, error %d, want %s to %s", s, low, high, err, wantLow, wantHigh)
	}
}

func checkRangeFails(t *testing.T, x api.Tender, s string, want api.Errno) {
	t.Helper()
	low, high, err := types.Range(x, formula(t, s))
	if low != (api.Rat{}) || high != (api.Rat{}) || err != want {
		t.Errorf("Range of %s: %v to %v, error %d, want error %d", s, low, high, err, want)
	}
}

// ranges returns a tender, not a right one, with names for intervals of all signs.
func ranges() api.Tender {
	return api.Tender{Low: 2, High: 10, Criteria: []api.Criterion{
		{Name: "plus", Low: 3, High: 7},
		{Name: "minus", Low: -5, High: -2},
		{Name: "both", Low: -3, High: 4},
		{Name: "from0", Low: 0, High: 6},
		{Name: "to0", Low: -6, High: 0},
		{Name: "zero", Low: 0, High: 0},
		{Name: "one", Low: 8, High: 8},
		{Name: "back", Low: 1, High: 0},
		{Name: "max64", Low: math.MaxInt, High: math.MaxInt},
		{Name: "min64", Low: math.MinInt, High: math.MinInt},
		{Name: "all", Low: math.MinInt, High: math.MaxInt},
		{Name: "plus", Low: 100, High: 200},
		{Name: "price", Low: 300, High: 400},
		{Name: "low", Low: 500, High: 600},
	}}
}

// P3.3: the intervals of all kinds of parts.
func TestRange(t *testing.T) {
	x := ranges()
	for s, want := range map[string][2]string{
		"7":              {"7", "7"},
		"0.25":           {"1/4", "1/4"},
		"price":          {"2", "10"},
		"low":            {"2", "10"},
		"plus":           {"3", "7"},
		"minus":          {"-5", "-2"},
		"zero":           {"0", "0"},
		"all":            {"-9223372036854775808", "9223372036854775807"},
		"plus + minus":   {"-2", "5"},
		"plus + 0.5":     {"7/2", "15/2"},
		"plus - minus":   {"5", "12"},
		"minus - plus":   {"-12", "-5"},
		"plus - plus":    {"-4", "4"},
		"price - low":    {"-8", "8"},
		"10 - price":     {"0", "8"},
		"plus * price":   {"6", "70"},
		"plus * minus":   {"-35", "-6"},
		"minus * plus":   {"-35", "-6"},
		"minus * minus":  {"4", "25"},
		"both * plus":    {"-21", "28"},
		"both * minus":   {"-20", "15"},
		"both * both":    {"-12", "16"},
		"zero * both":    {"0", "0"},
		"plus / price":   {"3/10", "7/2"},
		"plus / minus":   {"-7/2", "-3/5"},
		"minus / plus":   {"-5/3", "-2/7"},
		"minus / minus":  {"2/5", "5/2"},
		"both / plus":    {"-1", "4/3"},
		"both / minus":   {"-2", "3/2"},
		"zero / minus":   {"0", "0"},
		"from0 / one":    {"0", "3/4"},
		"to0 / 4":        {"-3/2", "0"},
		"one / 8":        {"1", "1"},
		"plus / 0.5":     {"6", "14"},
		"min(plus, 5)":   {"3", "5"},
		"min(5, plus)":   {"3", "5"},
		"max(plus, 5)":   {"5", "7"},
		"max(5, plus)":   {"5", "7"},
		"min(both, one)": {"-3", "4"},
		"max(both, one)": {"8", "8"},
		"min(plus, low)": {"2", "7"},
		"max(plus, low)": {"3", "10"},
		"min(low, plus)": {"2", "7"},
		"max(low, plus)": {"3", "10"},
		"min(all, all)":  {"-9223372036854775808", "9223372036854775807"},
		"max(max64, 1)":  {"9223372036854775807", "9223372036854775807"},
		"min(0.3, 0.29)": {"29/100", "29/100"},
		"2 + 3 * 4":      {"14", "14"},
		"(10 - price) / 10 * plus - from0 / price": {"-3", "28/5"},
		"1 / (from0 + 1)":                          {"1/7", "1"},
		"1 / max(both, 1)":                         {"1/4", "1"},
		"price + plus":                             {"5", "17"},
	} {
		checkRange(t, x, s, want[0], want[1])
	}
}

// P3.3: the examples of the chapter.
func TestRangeOfExamples(t *testing.T) {
	x := chairs(t)
	checkRange(t, x, "0.6 * low / price + 0.04 * comfort", "3/2500", "1502/5")
	checkRange(t, x, "price * low", "1", "250000")
	checkRange(t, x, "(500 - price) / 500 + comfort", "0", "5499/500")
	checkRangeFails(t, x, "low / comfort", api.ErrZero)
	checkRangeFails(t, x, "comfort * zeal", api.ErrName)
}

// P3.3: a name that is not known, and one whose least value is greater than its greatest one.
func TestRangeOfWrongNames(t *testing.T) {
	x := ranges()
	checkRangeFails(t, x, "zeal", api.ErrName)
	checkRangeFails(t, x, "Price", api.ErrName)
	checkRangeFails(t, x, "0 * zeal", api.ErrName)
	checkRangeFails(t, x, "back", api.ErrValue)
	checkRangeFails(t, x, "back - back + 1", api.ErrValue)
	x.Low, x.High = 11, 10
	checkRangeFails(t, x, "price", api.ErrValue)
	checkRangeFails(t, x, "low", api.ErrValue)
	checkRange(t, x, "plus + 1", "4", "8")
	x.Low = 10
	checkRange(t, x, "price + low", "20", "20")
	checkRange(t, api.Tender{}, "price + 1", "1", "1")
	checkRangeFails(t, api.Tender{}, "plus", api.ErrName)
}

// P3.3: a second argument of a quotient that can be 0, also at an end.
func TestRangeOfDivisionsByZero(t *testing.T) {
	x := ranges()
	for _, s := range []string{
		"1 / 0", "0 / 0", "plus / zero", "plus / both", "plus / from0", "plus / to0", "plus / (plus - plus)",
		"plus / (price - 2)", "plus / (10 - price)", "plus / all", "1 / min(both, plus)", "1 + 1 / (0 * plus)",
	} {
		checkRangeFails(t, x, s, api.ErrZero)
	}
}

// P3.3: an end that does not fit, though other ones do, and though the interval would.
func TestRangeOfNumbersThatDoNotFit(t *testing.T) {
	x := ranges()
	for _, s := range []string{
		"max64 + 1", "1 + max64", "all + 1", "min64 - 1", "all - 1", "0 - min64", "0 - all", "max64 - minus", "minus + min64",
		"max64 * 2", "max64 * price", "plus * all", "all * from0", "minus * all", "min64 * minus", "both * max64", "minus * min64",
		"min64 / minus / minus * max64", "1 / min64", "plus / min64", "0.000001 / max64", "max64 / 0.5", "all / 0.1",
		"(max64 + 1) - 1", "0 * (max64 + 1)", "both / (min64 + 0)",
	} {
		checkRangeFails(t, x, s, api.ErrRange)
	}
	checkRange(t, x, "max64 + min64", "-1", "-1")
	checkRange(t, x, "max64 - 1", "9223372036854775806", "9223372036854775806")
	checkRange(t, x, "max64 / max64", "1", "1")
	checkRange(t, x, "zero * all", "0", "0")
	checkRange(t, x, "zero / min64", "0", "0")
	checkRange(t, x, "min64 / (0 - 2)", "4611686018427387904", "4611686018427387904")
	checkRange(t, x, "all / 2", "-4611686018427387904", "9223372036854775807/2")
}

// P3.3: the first error in the order of the parts.
func TestRangeErrorsInOrder(t *testing.T) {
	x := ranges()
	for s, want := range map[string]api.Errno{
		"zeal + back":                   api.ErrName,
		"back + zeal":                   api.ErrValue,
		"(1 / 0) + zeal":                api.ErrZero,
		"zeal + (1 / 0)":                api.ErrName,
		"1 / 0 + back":                  api.ErrZero,
		"back / 0":                      api.ErrValue,
		"(max64 + 1) / 0":               api.ErrRange,
		"max64 / 0 + (max64 + 1)":       api.ErrZero,
		"(max64 + 1) * back":            api.ErrRange,
		"(max64 + 1) * (1 / 0)":         api.ErrRange,
		"min(zeal, 1 / 0)":              api.ErrName,
		"max(1 / 0, zeal)":              api.ErrZero,
		"1 / (zeal * 0)":                api.ErrName,
		"(min64 - 1) / (both - both)":   api.ErrRange,
		"min64 / both":                  api.ErrZero,
		"price + plus + max64 * 2":      api.ErrRange,
		"price + plus * (low + back)":   api.ErrValue,
		"price + comfort / (both + 17)": api.ErrName,
	} {
		checkRangeFails(t, x, s, want)
	}
}

// P3.3: expressions that are not right have no interval.
func TestRangeOfWrongExpressions(t *testing.T) {
	for _, f := range wrongExprs() {
		low, high, err := types.Range(chairs(t), f.expr)
		if low != (api.Rat{}) || high != (api.Rat{}) || err != api.ErrArg {
			t.Errorf("Range of an expression with %s: %v to %v, error %d", f.why, low, high, err)
		}
	}
	for leaves, e := range map[int]api.Expr{12: chain(12), 30: balanced(30)} {
		low, high, err := types.Range(api.Tender{Low: 1, High: 2}, e)
		if low != ratio.Of(leaves) || high != ratio.Of(2*leaves) || err != api.OK {
			t.Errorf("Range of a sum of %d prices: %v to %v, error %d", leaves, low, high, err)
		}
	}
}
