package types_test

import (
	"math"
	"strings"
	"testing"

	"probity/api"
	"probity/types"
)

func checkUnit(t *testing.T, x api.Tender, s, want string, wantErr api.Errno) {
	t.Helper()
	if got, err := types.Unit(x, formula(t, s)); got != want || err != wantErr {
		t.Errorf("Unit of %s: %q, error %d, want %q, error %d", s, got, err, want, wantErr)
	}
}

// P3.2: the powers of all kinds of parts.
func TestUnit(t *testing.T) {
	x := chairs(t)
	for s, want := range map[string]string{
		"0":                                  "",
		"7.5":                                "",
		"price":                              "money",
		"low":                                "money",
		"comfort":                            "",
		"0.6 * low / price + 0.04 * comfort": "",
		"price * low":                        "money^2",
		"price * price * low * 3":            "money^3",
		"price * comfort":                    "money",
		"2 * price":                          "money",
		"price * 2":                          "money",
		"2 * 3":                              "",
		"(500 - price) / 500 + comfort":      "",
		"price / 500":                        "",
		"low / 0.5":                          "",
		"(2 * price) / 500":                  "",
		"(price / comfort) / 500":            "",
		"price / (2 * 250)":                  "money",
		"price / (250)":                      "",
		"price / min(1, 2)":                  "money",
		"price / comfort":                    "money",
		"price / low":                        "",
		"price * low / 500":                  "money^2",
		"price * low * price / 500":          "money^3",
		"comfort / 500":                      "",
		"5 / 2":                              "",
		"5 / price":                          "money^-1",
		"comfort / price":                    "money^-1",
		"comfort / price / 500":              "money^-1",
		"comfort / price / low":              "money^-2",
		"comfort / (price * price * low)":    "money^-3",
		"price / 500 * price":                "money",
		"1 / price * price":                  "",
		"price + 5":                          "money",
		"5 + price":                          "money",
		"5 - price":                          "money",
		"price - 5":                          "money",
		"min(5, price)":                      "money",
		"min(price, 5)":                      "money",
		"max(5, price * low)":                "money^2",
		"max(price * low, 5)":                "money^2",
		"5 + 1 / price":                      "money^-1",
		"1 / price + 5":                      "money^-1",
		"5 + 6":                              "",
		"max(5, 6)":                          "",
		"price + low":                        "money",
		"price - low":                        "money",
		"min(price, low)":                    "money",
		"max(low, price + 5)":                "money",
		"comfort + speed":                    "",
		"comfort + 1":                        "",
		"comfort + (1 + 2)":                  "",
		"price / 500 + comfort":              "",
		"max(comfort, low / price)":          "",
		"price * low + low * low":            "money^2",
		"price * low / price - low":          "money",
		"1 / price - comfort / low":          "money^-1",
	} {
		checkUnit(t, x, s, want, api.OK)
	}
}

// P3.2: the power of as many factors as a formula can have.
func TestUnitOfGreatPowers(t *testing.T) {
	product := strings.TrimSuffix(strings.Repeat("price*", 12), "*")
	powers := map[string]string{
		product: "money^12",
		"1/(" + strings.Replace(product, "*price*", "*", 1) + ")":                                                   "money^-11",
		"(price*price*price*price)*(price*price*price*price)*((price*price*price*price)*(price*price*price*price))": "money^16",
	}
	for s, want := range powers {
		checkUnit(t, api.Tender{}, s, want, api.OK)
	}
}

// P3.2: the errors, the first one in the order of the parts.
func TestUnitErrors(t *testing.T) {
	x := chairs(t)
	for s, want := range map[string]api.Errno{
		"zeal":                            api.ErrName,
		"comfort * zeal":                  api.ErrName,
		"zeal * 0":                        api.ErrName,
		"Price":                           api.ErrName,
		"Comfort":                         api.ErrName,
		"comforts":                        api.ErrName,
		"comfor":                          api.ErrName,
		"Chairs":                          api.ErrName,
		"price + comfort":                 api.ErrUnit,
		"price - comfort":                 api.ErrUnit,
		"min(price, comfort)":             api.ErrUnit,
		"max(price, comfort)":             api.ErrUnit,
		"comfort + low":                   api.ErrUnit,
		"price * low + price":             api.ErrUnit,
		"price + 1 / price":               api.ErrUnit,
		"1 / price - low":                 api.ErrUnit,
		"price + (1 + 2)":                 api.ErrUnit,
		"(1 + 2) - price":                 api.ErrUnit,
		"max(2 * 3, price)":               api.ErrUnit,
		"price + price / 500":             api.ErrUnit,
		"(price + comfort) * 0":           api.ErrUnit,
		"(price + comfort) * zeal":        api.ErrUnit,
		"zeal * (price + comfort)":        api.ErrName,
		"price + zeal":                    api.ErrName,
		"min(price, comfort) / (1 + bad)": api.ErrUnit,
		"(1 + bad) / min(price, comfort)": api.ErrName,
		"price + (comfort + bad)":         api.ErrName,
	} {
		checkUnit(t, x, s, "", want)
	}
}

// P3.2: expressions that are not right have no unit, whatever else is wrong in them.
func TestUnitOfWrongExpressions(t *testing.T) {
	for _, f := range wrongExprs() {
		if unit, err := types.Unit(chairs(t), f.expr); unit != "" || err != api.ErrArg {
			t.Errorf("Unit of an expression with %s: %q, error %d", f.why, unit, err)
		}
	}
	for _, e := range []api.Expr{chain(12), balanced(30)} {
		if unit, err := types.Unit(chairs(t), e); unit != "money" || err != api.OK {
			t.Errorf("Unit of a great expression: %q, error %d", unit, err)
		}
	}
}

// P3.2: the tender need not be right, and only its criteria play a part; their ranges do not.
func TestUnitInWrongTenders(t *testing.T) {
	x := api.Tender{
		Low: 5, High: -5,
		Criteria: []api.Criterion{{Name: "a", Kind: 77, Low: math.MaxInt, High: math.MinInt}, {}, {Name: "a"}, {Name: "price"}, {Name: "low"}},
	}
	for s, want := range map[string]string{
		"a":             "",
		"a + a / a":     "",
		"price / a":     "money",
		"price * low":   "money^2",
		"1 / (low - 1)": "money^-1",
	} {
		checkUnit(t, x, s, want, api.OK)
	}
	checkUnit(t, x, "price + a", "", api.ErrUnit)
	checkUnit(t, x, "b", "", api.ErrName)
	checkUnit(t, api.Tender{}, "price / 2 + 1", "", api.OK)
	checkUnit(t, api.Tender{}, "a", "", api.ErrName)
}
