package eval_test

import (
	"math"
	"math/big"
	"math/rand"
	"slices"
	"strings"

	"probity/api"
)

func name(n string) api.Expr { return api.Expr{Op: "name", Name: n} }

func num(n, d int) api.Expr { return api.Expr{Op: "num", Num: api.Rat{Num: n, Den: d}} }

func whole(n int) api.Expr { return num(n, 1) }

func apply(op string, a, b api.Expr) api.Expr {
	return api.Expr{Op: op, Args: []api.Expr{a, b}}
}

func operators() []string { return []string{"+", "-", "*", "/", "min", "max"} }

// chain returns a sum with this depth, in which each sum is the first argument of the next one.
func chain(depth int, leaf api.Expr) api.Expr {
	e := leaf
	for range depth - 1 {
		e = apply("+", e, leaf)
	}
	return e
}

// balanced returns a sum of so many leaves with the least possible depth; it has 2 * leaves - 1 parts.
func balanced(leaves int, leaf api.Expr) api.Expr {
	if leaves == 1 {
		return leaf
	}
	return apply("+", balanced(leaves/2, leaf), balanced(leaves-leaves/2, leaf))
}

// sharing returns a formula in which each part is both arguments of the one around it.
func sharing(levels int, leaf api.Expr) api.Expr {
	for range levels {
		leaf = apply("+", leaf, leaf)
	}
	return leaf
}

// looping returns a formula that contains itself, in a list with so many arguments.
func looping(length int) api.Expr {
	args := make([]api.Expr, length)
	for i := range args {
		args[i] = api.Expr{Op: "+", Args: args}
	}
	return args[0]
}

func divisionByZero() api.Expr { return apply("/", whole(1), whole(0)) }

func greatSum() api.Expr { return apply("+", whole(math.MaxInt), whole(1)) }

type fault struct {
	why  string
	expr api.Expr
}

// illFormed returns formulas that are not too large, but not well formed, each with one fault.
func illFormed() []fault {
	a := name("price")
	one := api.Rat{Num: 1, Den: 1}
	return []fault{
		{"the zero formula", api.Expr{}},
		{"an empty Op with two Args", apply("", a, a)},
		{"another Op", apply("^", a, a)},
		{"an Op in capitals", apply("MIN", a, a)},
		{"an Op with a blank", apply("+ ", a, a)},
		{"the Op num with two Args", apply("num", whole(1), whole(1))},
		{"the Op name with two Args", apply("name", a, a)},
		{"no Args", api.Expr{Op: "+"}},
		{"empty Args", api.Expr{Op: "max", Args: []api.Expr{}}},
		{"one argument", api.Expr{Op: "-", Args: []api.Expr{a}}},
		{"three arguments", api.Expr{Op: "+", Args: []api.Expr{a, a, a}}},
		{"an argument of a name", api.Expr{Op: "name", Name: "price", Args: []api.Expr{a}}},
		{"arguments of a number", api.Expr{Op: "num", Num: one, Args: []api.Expr{a, a}}},
		{"a Name of a number", api.Expr{Op: "num", Num: one, Name: "price"}},
		{"a Num of a name", api.Expr{Op: "name", Name: "price", Num: one}},
		{"the Num 0 of a name", api.Expr{Op: "name", Name: "price", Num: api.Rat{Den: 1}}},
		{"a Num of a name with Den 0", api.Expr{Op: "name", Name: "price", Num: api.Rat{Num: 1}}},
		{"a Name of an operator", api.Expr{Op: "*", Name: "price", Args: []api.Expr{a, a}}},
		{"a Num of an operator", api.Expr{Op: "/", Num: one, Args: []api.Expr{a, a}}},
		{"the Num 0 of an operator", api.Expr{Op: "min", Num: api.Rat{Den: 1}, Args: []api.Expr{a, a}}},
		{"an empty name", name("")},
		{"a zero Num", api.Expr{Op: "num"}},
		{"a number not in lowest terms", num(2, 4)},
		{"0 not in lowest terms", num(0, 2)},
		{"a negative denominator", num(-1, -1)},
		{"a denominator 0", num(1, 0)},
		{"the least denominator", num(1, math.MinInt)},
		{"a fault in the first argument", apply("+", apply("*", a, name("")), a)},
		{"a fault in the second argument", apply("+", a, apply("*", num(2, 4), a))},
		{"a fault behind an unknown name", apply("+", name("zeal"), num(2, 4))},
		{"a fault behind a division by 0", apply("+", divisionByZero(), api.Expr{})},
		{"a fault at the greatest depth", chain(12, api.Expr{Op: "?"})},
		{"a fault in 59 parts", balanced(30, num(2, 4))},
		{"60 parts in one list", api.Expr{Op: "+", Args: slices.Repeat([]api.Expr{whole(1)}, 59)}},
	}
}

// tooLarge returns formulas with too many parts, or a depth that is too great.
func tooLarge() []fault {
	a := name("price")
	return []fault{
		{"61 parts", balanced(31, a)},
		{"a depth of 13", chain(13, a)},
		{"a depth of 13 in second arguments", apply("-", whole(1), chain(12, a))},
		{"a depth of 13 in lists of one", nested(13)},
		{"61 parts in one list", api.Expr{Op: "+", Args: slices.Repeat([]api.Expr{whole(1)}, 60)}},
		{"60 arguments of a name", api.Expr{Op: "name", Name: "price", Args: make([]api.Expr, 60)}},
		{"60 arguments of the zero formula", api.Expr{Args: make([]api.Expr, 60)}},
		{"61 parts, and a fault", balanced(31, num(2, 4))},
		{"a depth of 13, and a fault", chain(13, api.Expr{})},
		{"a fault before too many parts", apply("+", api.Expr{}, balanced(30, a))},
		{"a fault around too many parts", apply("?", a, balanced(30, a))},
		{"an unknown name and 61 parts", balanced(31, name("zeal"))},
		{"a division by 0 and 61 parts", apply("+", divisionByZero(), balanced(29, a))},
		{"2^100 parts", sharing(100, a)},
		{"itself as an argument", looping(2)},
		{"itself as the only argument", looping(1)},
		{"itself as many arguments", looping(100000)},
		{"200000 levels", nested(200000)},
		{"a million arguments", api.Expr{Op: "max", Args: make([]api.Expr, 1000000)}},
	}
}

// nested returns a formula with this depth, and one part on each level.
func nested(depth int) api.Expr {
	e := name("price")
	for range depth - 1 {
		e = api.Expr{Op: "+", Args: []api.Expr{e}}
	}
	return e
}

// randomFormula returns a right formula with at most so many operators, and at most this depth.
func randomFormula(r *rand.Rand, operations, depth int) api.Expr {
	if operations == 0 || depth == 1 {
		return randomLeaf(r)
	}
	first := r.Intn(operations)
	op := operators()[r.Intn(len(operators()))]
	return apply(op, randomFormula(r, first, depth-1), randomFormula(r, operations-1-first, depth-1))
}

func randomLeaf(r *rand.Rand) api.Expr {
	switch r.Intn(12) {
	case 0:
		return whole(math.MaxInt - r.Intn(2))
	case 1:
		return whole(math.MinInt + r.Intn(2))
	case 2:
		return num(1, math.MaxInt-r.Intn(2))
	case 3, 4:
		return num(2*r.Intn(9)-9, 1<<r.Intn(4))
	case 5, 6:
		return whole(r.Intn(4))
	}
	return name([]string{"price", "low", "a", "b", "c", "great", "least"}[r.Intn(7)])
}

// exactValue is the definition of P4.1 in other words, with numbers of any size; the formula has to be right.
func exactValue(e api.Expr, values map[string]int) (*big.Rat, api.Errno) {
	switch e.Op {
	case "num":
		return big.NewRat(int64(e.Num.Num), int64(e.Num.Den)), api.OK
	case "name":
		n, known := values[e.Name]
		if !known {
			return nil, api.ErrName
		}
		return big.NewRat(int64(n), 1), api.OK
	}
	a, err := exactValue(e.Args[0], values)
	if err != api.OK {
		return nil, err
	}
	b, err := exactValue(e.Args[1], values)
	if err != api.OK {
		return nil, err
	}
	result := new(big.Rat)
	switch e.Op {
	case "+":
		result.Add(a, b)
	case "-":
		result.Sub(a, b)
	case "*":
		result.Mul(a, b)
	case "/":
		if b.Sign() == 0 {
			return nil, api.ErrZero
		}
		result.Quo(a, b)
	default:
		if result = a; (a.Cmp(b) > 0) == (e.Op == "min") {
			result = b
		}
	}
	if !result.Num().IsInt64() || !result.Denom().IsInt64() {
		return nil, api.ErrRange
	}
	return result, api.OK
}

// isEqual compares formulas of which one is not larger than a test can walk through.
func isEqual(a, b api.Expr) bool {
	return a.Op == b.Op && a.Num == b.Num && a.Name == b.Name && slices.EqualFunc(a.Args, b.Args, isEqual)
}

// twin returns an equal formula in new memory, for right formulas and small others.
func twin(e api.Expr) api.Expr {
	e.Op, e.Name, e.Args = strings.Clone(e.Op), strings.Clone(e.Name), slices.Clone(e.Args)
	for i := range e.Args {
		e.Args[i] = twin(e.Args[i])
	}
	return e
}

// listsOf returns the lists of arguments in a formula.
func listsOf(e api.Expr) [][]api.Expr {
	if len(e.Args) == 0 {
		return nil
	}
	lists := [][]api.Expr{e.Args}
	for _, argument := range e.Args {
		lists = append(lists, listsOf(argument)...)
	}
	return lists
}

func partsIn(e api.Expr) int {
	parts := 1
	for _, argument := range e.Args {
		parts += partsIn(argument)
	}
	return parts
}
