package types_test

import (
	"reflect"
	"slices"
	"strings"
	"testing"
	"unsafe"

	"probity/api"
	"probity/text"
	"probity/types"
)

func name(n string) api.Expr { return api.Expr{Op: "name", Name: n} }

func num(n, d int) api.Expr { return api.Expr{Op: "num", Num: api.Rat{Num: n, Den: d}} }

func apply(op string, a, b api.Expr) api.Expr {
	return api.Expr{Op: op, Args: []api.Expr{a, b}}
}

func formula(t *testing.T, s string) api.Expr {
	t.Helper()
	e, at, err := text.Formula(s)
	if err != api.OK {
		t.Fatalf("Formula(%q): error %d at %d", s, err, at)
	}
	return e
}

// chairs returns a tender that Check accepts, in which every kind of clause occurs.
func chairs(t *testing.T) api.Tender {
	t.Helper()
	x, at, err := text.Parse(`tender Chairs
lot 1 most 500
lot 2 most 400
lot 7 most 1
criterion comfort grade 0 10
criterion speed offer 1 5 less
criterion weight offer 3 3
require speed <= 4
require weight >= 0
price 1 500
formula 0.6 * low / price + 0.04 * comfort
tie comfort price weight
most 2
combo 1 2
combo 7 2 1
budget 500
times 10 20 30 40 5
`)
	if err != api.OK {
		t.Fatalf("Parse: error %d at %d", err, at)
	}
	return x
}

// sharing returns an expression in which each part is both arguments of the one around it.
func sharing(levels int, leaf api.Expr) api.Expr {
	for range levels {
		leaf = apply("+", leaf, leaf)
	}
	return leaf
}

// chain returns a sum of so many names, in which each sum is the first argument of the next one.
func chain(leaves int) api.Expr {
	e := name("price")
	for range leaves - 1 {
		e = apply("+", e, name("price"))
	}
	return e
}

// balanced returns a sum of so many names with the least possible depth.
func balanced(leaves int) api.Expr {
	if leaves == 1 {
		return name("price")
	}
	return apply("+", balanced(leaves/2), balanced(leaves-leaves/2))
}

func looping() api.Expr {
	args := []api.Expr{{Op: "+"}, {Op: "+"}}
	args[0].Args, args[1].Args = args, args
	return args[0]
}

type fault struct {
	why  string
	expr api.Expr
}

// wrongExprs returns expressions that are not right, each with one fault.
func wrongExprs() []fault {
	a := name("price")
	return []fault{
		{"the zero expression", api.Expr{}},
		{"another Op", apply("^", a, a)},
		{"an Op in capitals", apply("MIN", a, a)},
		{"no Args", api.Expr{Op: "+"}},
		{"one argument", api.Expr{Op: "+", Args: []api.Expr{a}}},
		{"three arguments", api.Expr{Op: "+", Args: []api.Expr{a, a, a}}},
		{"Args of a name", api.Expr{Op: "name", Name: "price", Args: []api.Expr{a, a}}},
		{"Args of a number", api.Expr{Op: "num", Num: api.Rat{Num: 1, Den: 1}, Args: []api.Expr{a, a}}},
		{"a Name of a number", api.Expr{Op: "num", Num: api.Rat{Num: 1, Den: 1}, Name: "price"}},
		{"a Num of a name", api.Expr{Op: "name", Name: "price", Num: api.Rat{Num: 0, Den: 1}}},
		{"a Name of an operator", api.Expr{Op: "+", Name: "price", Args: []api.Expr{a, a}}},
		{"an empty name", name("")},
		{"the name min", name("min")},
		{"the name max", name("max")},
		{"a name with a blank", name("low price")},
		{"a long name", name(strings.Repeat("n", 31))},
		{"a zero Num", api.Expr{Op: "num"}},
		{"not in lowest terms", num(2, 4)},
		{"a negative number", num(-1, 1)},
		{"a great number", num(1000000001, 1)},
		{"a third", num(1, 3)},
		{"a negative denominator", num(-1, -1)},
		{"an inner fault", apply("+", a, apply("*", num(1, 2), name("")))},
		{"an inner fault behind an unknown name", apply("+", name("zeal"), num(1, 3))},
		{"a depth of 13", chain(13)},
		{"61 parts", balanced(31)},
		{"2^100 parts", sharing(100, a)},
		{"itself as an argument", looping()},
	}
}

// P3.1: each name once, in the order of the parts.
func TestNames(t *testing.T) {
	for s, want := range map[string][]string{
		"0.6 * low / price + 0.04 * comfort": {"low", "price", "comfort"},
		"7":                                  nil,
		"1 + 2 * min(3, 4)":                  nil,
		"price":                              {"price"},
		"zeal":                               {"zeal"},
		"b - a":                              {"b", "a"},
		"a + a * a":                          {"a"},
		"max(c, b / (a - c)) - min(d, b + 1) * A":      {"c", "b", "a", "d", "A"},
		"(x * y + z) * (z + y + x) + w":                {"x", "y", "z", "w"},
		"price - low + price":                          {"price", "low"},
		"minimum + maximum + number + num + name":      {"minimum", "maximum", "number", "num", "name"},
		"a1 + a2 + a3 + a4 + a5 + a6 + a7 + a8 + a9":   {"a1", "a2", "a3", "a4", "a5", "a6", "a7", "a8", "a9"},
		"a * (b * (c * (d * (e * (f * (g * (h + a))))": nil,
	} {
		e, _, err := text.Formula(s)
		if (err == api.OK) != (strings.Count(s, "(") == strings.Count(s, ")")) {
			t.Fatalf("Formula(%q): error %d", s, err)
		}
		if got := types.Names(e); !slices.Equal(got, want) {
			t.Errorf("Names of %s: %q, want %q", s, got, want)
		}
	}
	if got := types.Names(chain(12)); !slices.Equal(got, []string{"price"}) {
		t.Errorf("Names of a formula with the depth 12: %q", got)
	}
	if got := types.Names(balanced(30)); !slices.Equal(got, []string{"price"}) {
		t.Errorf("Names of a formula with 59 parts: %q", got)
	}
}

// P3.1: nothing for expressions that are not right.
func TestNamesOfWrongExpressions(t *testing.T) {
	for _, f := range wrongExprs() {
		if got := types.Names(f.expr); len(got) != 0 {
			t.Errorf("Names of an expression with %s: %q", f.why, got)
		}
	}
}

// R3: the results are new memory, and the arguments stay as they are.
func TestNamesOwnership(t *testing.T) {
	e, same := formula(t, "low / price + comfort"), formula(t, "low / price + comfort")
	first := types.Names(e)
	first[0], first[1] = "a", "b"
	if got := types.Names(e); !slices.Equal(got, []string{"low", "price", "comfort"}) {
		t.Errorf("Names after a change of the last result: %q", got)
	}
	if !reflect.DeepEqual(e, same) {
		t.Errorf("Names has changed its argument: %v", e)
	}
	if unsafe.StringData(first[2]) == unsafe.StringData(e.Args[1].Name) {
		t.Errorf("Names shares memory with its argument")
	}
}
