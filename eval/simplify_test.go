package eval_test

import (
	"math"
	"math/rand"
	"strings"
	"testing"
	"unsafe"

	"probity/api"
	"probity/eval"
)

func checkSimplify(t *testing.T, e, want api.Expr) {
	t.Helper()
	if got := eval.Simplify(e); !isEqual(got, want) {
		t.Errorf("Simplify of %v: %v, want %v", e, got, want)
	}
}

// P4.4: operations on numbers are replaced by their values, others stay.
func TestSimplify(t *testing.T) {
	price, zero := name("price"), divisionByZero()
	six := apply("*", whole(2), whole(3))
	for _, c := range [][2]api.Expr{
		{apply("/", apply("+", six, price), zero), apply("/", apply("+", whole(6), price), zero)},
		{whole(7), whole(7)},
		{num(-1, 3), num(-1, 3)},
		{price, price},
		{apply("+", num(1, 2), num(1, 3)), num(5, 6)},
		{apply("-", num(1, 3), num(1, 2)), num(-1, 6)},
		{six, whole(6)},
		{apply("/", whole(2), whole(-4)), num(-1, 2)},
		{apply("min", num(1, 2), num(1, 3)), num(1, 3)},
		{apply("max", num(1, 2), num(1, 3)), num(1, 2)},
		{apply("-", six, six), whole(0)},
		{apply("+", apply("max", six, apply("-", six, whole(10))), apply("/", six, whole(4))), num(15, 2)},
		{apply("+", six, price), apply("+", whole(6), price)},
		{apply("+", price, six), apply("+", price, whole(6))},
		{apply("*", whole(0), price), apply("*", whole(0), price)},
		{apply("-", price, price), apply("-", price, price)},
		{apply("min", price, price), apply("min", price, price)},
		{apply("+", apply("+", price, whole(1)), whole(2)), apply("+", apply("+", price, whole(1)), whole(2))},
		{apply("+", price, apply("+", whole(1), whole(2))), apply("+", price, whole(3))},
		{balanced(30, whole(2)), whole(60)},
		{chain(12, whole(2)), whole(24)},
	} {
		checkSimplify(t, c[0], c[1])
	}
}

// P4.4: operations that have an error stay, and so do those around them.
func TestSimplifyKeepsErrors(t *testing.T) {
	zero, great := divisionByZero(), greatSum()
	six := apply("+", whole(2), whole(4))
	for _, e := range []api.Expr{
		zero, great, apply("/", whole(0), whole(0)), apply("-", whole(math.MinInt), whole(1)), apply("/", whole(1), whole(math.MinInt)),
		apply("+", zero, great), apply("*", whole(0), zero), apply("min", whole(1), great), apply("+", name("zeal"), zero),
	} {
		checkSimplify(t, e, e)
	}
	checkSimplify(t, apply("/", six, apply("-", six, six)), apply("/", whole(6), whole(0)))
	checkSimplify(t, apply("*", six, apply("+", apply("*", six, whole(math.MaxInt)), six)), apply("*", whole(6), apply("+", apply("*", whole(6), whole(math.MaxInt)), whole(6))))
}

// P4.4: formulas that are not right stay as they are, also where parts of them could be replaced.
func TestSimplifyOfWrongFormulas(t *testing.T) {
	six := apply("+", whole(2), whole(4))
	for _, f := range illFormed() {
		checkSimplify(t, f.expr, twin(f.expr))
		checkSimplify(t, apply("*", six, f.expr), apply("*", twin(six), twin(f.expr)))
	}
	for _, e := range []api.Expr{
		balanced(31, whole(1)), chain(13, whole(1)), apply("+", chain(12, name("price")), six), sharing(10, six), nested(500),
		{Op: "+", Args: []api.Expr{six, six, six}}, {Op: "num", Num: api.Rat{Num: 1, Den: 1}, Args: []api.Expr{six}},
		{Op: "name", Name: "price", Args: []api.Expr{six, {}, six}},
	} {
		checkSimplify(t, e, twin(e))
	}
}

// P1: what cannot be written out is copied, too: Simplify ends, and the parts that can be reached are the same.
func TestSimplifyOfVastFormulas(t *testing.T) {
	for _, f := range append(tooLarge(), fault{"itself behind a part", apply("-", whole(1), looping(3))}) {
		got, want := eval.Simplify(f.expr), f.expr
		for range 1000 {
			if got.Op != want.Op || got.Name != want.Name || got.Num != want.Num || len(got.Args) != len(want.Args) {
				t.Fatalf("Simplify of a formula with %s: a part %s %s with %d arguments, want %s %s with %d", f.why, got.Op, got.Name, len(got.Args), want.Op, want.Name, len(want.Args))
			}
			if len(want.Args) == 0 {
				break
			}
			if &got.Args[0] == &want.Args[0] {
				t.Fatalf("Simplify of a formula with %s shares memory with its argument", f.why)
			}
			got, want = got.Args[len(got.Args)-1], want.Args[len(want.Args)-1]
		}
	}
}

// R3: the result shares no memory with the argument, nor do parts of the result, and the argument stays as it is.
func TestSimplifyOwnership(t *testing.T) {
	price := name(strings.Clone("price"))
	common := []api.Expr{price, whole(2)}
	twice := apply("+", api.Expr{Op: "*", Args: common}, api.Expr{Op: "*", Args: common})
	for _, e := range []api.Expr{
		twice, apply("/", twice, apply("+", whole(1), whole(2))), sharing(3, price),
		apply("?", twice, twice), balanced(31, twice), sharing(12, twice), {Op: "+", Args: []api.Expr{twice, twice, price}},
	} {
		before := twin(e)
		got := eval.Simplify(e)
		inResult := map[*api.Expr]bool{}
		for _, list := range listsOf(got) {
			if inResult[&list[0]] {
				t.Fatalf("Simplify of %v: two lists of the result share memory", e)
			}
			inResult[&list[0]] = true
		}
		for _, list := range listsOf(e) {
			if inResult[&list[0]] {
				t.Fatalf("Simplify of %v: the result shares memory with the argument", e)
			}
		}
		for _, list := range listsOf(got) {
			for i := range list {
				if list[i].Name != "" && unsafe.StringData(list[i].Name) == unsafe.StringData(price.Name) {
					t.Fatalf("Simplify of %v: a name of the result shares memory with the argument", e)
				}
				list[i] = api.Expr{Op: "changed"}
			}
		}
		if !isEqual(e, before) {
			t.Errorf("the argument has changed: %v, want %v", e, before)
		}
	}
}

// P4.5: a simplified formula has the same value, or the same error, no more parts, and is simple.
func TestSimplifiedFormulas(t *testing.T) {
	r := rand.New(rand.NewSource(7))
	seen := map[api.Errno]int{}
	fewer := 0
	for range 60000 {
		e := randomFormula(r, r.Intn(10), 12)
		simple := eval.Simplify(e)
		list, _ := randomValues(r)
		want, wantErr := eval.Eval(e, list)
		if got, err := eval.Eval(simple, list); got != want || err != wantErr {
			t.Fatalf("Eval of %v, simplified to %v: %v, error %d, want %v, error %d", e, simple, got, err, want, wantErr)
		}
		if partsIn(simple) > partsIn(e) || !isEqual(eval.Simplify(simple), simple) {
			t.Fatalf("Simplify of %v: %v, which has more parts, or is simplified further", e, simple)
		}
		if partsIn(simple) < partsIn(e) {
			fewer++
		}
		seen[wantErr]++
	}
	for _, err := range []api.Errno{api.OK, api.ErrName, api.ErrZero, api.ErrRange} {
		if seen[err] < 1000 {
			t.Errorf("only %d results with error %d", seen[err], err)
		}
	}
	if fewer < 1000 {
		t.Errorf("only %d formulas were simplified", fewer)
	}
}

// P4.5: Eval of Simplify is Eval, for wrong formulas too.
func TestSimplifiedWrongFormulas(t *testing.T) {
	for _, f := range append(illFormed(), tooLarge()...) {
		_, want := eval.Eval(f.expr, someValues())
		if got, err := eval.Eval(eval.Simplify(f.expr), someValues()); got != (api.Rat{}) || err != want {
			t.Errorf("Eval of Simplify of a formula with %s: %v, error %d, want error %d", f.why, got, err, want)
		}
	}
}

// P4.5: a right formula without names is simplified to a number, or has the error ErrZero or ErrRange.
func TestSimplifyWithoutNames(t *testing.T) {
	r := rand.New(rand.NewSource(8))
	numbers, errors := 0, 0
	for range 20000 {
		e := withoutNames(r, randomFormula(r, r.Intn(10), 12))
		simple := eval.Simplify(e)
		value, err := eval.Eval(e, nil)
		switch {
		case err == api.OK && isEqual(simple, api.Expr{Op: "num", Num: value}):
			numbers++
		case (err == api.ErrZero || err == api.ErrRange) && simple.Op != "num":
			errors++
		default:
			t.Fatalf("Simplify of %v: %v, where Eval returns %v, error %d", e, simple, value, err)
		}
	}
	if numbers < 1000 || errors < 1000 {
		t.Errorf("only %d numbers and %d errors", numbers, errors)
	}
}

// withoutNames returns a formula with numbers in the place of names.
func withoutNames(r *rand.Rand, e api.Expr) api.Expr {
	if e.Op == "name" {
		return whole(r.Intn(5))
	}
	e = twin(e)
	for i := range e.Args {
		e.Args[i] = withoutNames(r, e.Args[i])
	}
	return e
}
