package eval_test

import (
	"math"
	"math/big"
	"math/rand"
	"reflect"
	"slices"
	"testing"

	"probity/api"
	"probity/eval"
)

func checkEval(t *testing.T, e api.Expr, values []api.Value, want api.Rat) {
	t.Helper()
	if got, err := eval.Eval(e, values); got != want || err != api.OK {
		t.Errorf("Eval of %v for %v: %v, error %d, want %v", e, values, got, err, want)
	}
}

func checkEvalFails(t *testing.T, why string, e api.Expr, values []api.Value, want api.Errno) {
	t.Helper()
	if got, err := eval.Eval(e, values); got != (api.Rat{}) || err != want {
		t.Errorf("Eval of a formula with %s: %v, error %d, want error %d", why, got, err, want)
	}
}

func someValues() []api.Value {
	return []api.Value{
		{Name: "price", N: 90}, {Name: "low", N: 60}, {Name: "zero", N: 0}, {Name: "minus", N: -3},
		{Name: "great", N: math.MaxInt}, {Name: "least", N: math.MinInt},
	}
}

// P4.1: the examples of the chapter.
func TestEvalExamples(t *testing.T) {
	price, low := name("price"), name("low")
	checkEval(t, apply("/", apply("*", whole(60), low), price), []api.Value{{Name: "price", N: 90}, {Name: "low", N: 60}}, api.Rat{Num: 40, Den: 1})
	checkEvalFails(t, "1 / (price - low)", apply("/", whole(1), apply("-", price, low)), []api.Value{{Name: "price", N: 5}, {Name: "low", N: 5}}, api.ErrZero)
	checkEval(t, apply("min", price, apply("/", whole(1), whole(2))), []api.Value{{Name: "price", N: 3}}, api.Rat{Num: 1, Den: 2})
	checkEvalFails(t, "quality", apply("+", name("quality"), whole(1)), []api.Value{{Name: "price", N: 3}}, api.ErrName)
}

// P4.1: numbers are what they are, also negative ones, thirds, and those at the ends.
func TestEvalOfNumbers(t *testing.T) {
	for _, n := range []api.Rat{
		{Num: 0, Den: 1}, {Num: 7, Den: 1}, {Num: -7, Den: 1}, {Num: 1, Den: 3}, {Num: -22, Den: 7},
		{Num: math.MaxInt, Den: 1}, {Num: math.MinInt, Den: 1}, {Num: 1, Den: math.MaxInt}, {Num: math.MinInt, Den: math.MaxInt},
	} {
		checkEval(t, api.Expr{Op: "num", Num: n}, nil, n)
		checkEval(t, api.Expr{Op: "num", Num: n, Args: []api.Expr{}}, []api.Value{}, n)
	}
}

// P4.1: a name has the first of its values.
func TestEvalOfNames(t *testing.T) {
	values := []api.Value{{Name: "", N: 9}, {Name: "a", N: 1}, {Name: "b", N: 2}, {Name: "a", N: 3}, {Name: "min", N: 4}, {Name: "b c", N: 5}, {Name: "A", N: 6}}
	for n, want := range map[string]int{"a": 1, "b": 2, "min": 4, "b c": 5, "A": 6} {
		checkEval(t, name(n), values, api.Rat{Num: want, Den: 1})
	}
	checkEval(t, name("great"), someValues(), api.Rat{Num: math.MaxInt, Den: 1})
	checkEval(t, name("least"), someValues(), api.Rat{Num: math.MinInt, Den: 1})
	checkEval(t, api.Expr{Op: "name", Name: "a", Args: []api.Expr{}}, values, api.Rat{Num: 1, Den: 1})
	for _, n := range []string{"c", "B", "a ", "mi", "price", "low"} {
		checkEvalFails(t, "the name "+n, name(n), values, api.ErrName)
	}
	checkEvalFails(t, "a name without values", name("a"), nil, api.ErrName)
}

// P4.1: the operations.
func TestEvalOfOperations(t *testing.T) {
	half, third := num(1, 2), num(1, 3)
	for _, c := range []struct {
		op       string
		a, b     api.Expr
		num, den int
	}{
		{"+", half, third, 5, 6}, {"+", half, num(-1, 2), 0, 1}, {"+", name("great"), name("least"), -1, 1},
		{"-", half, third, 1, 6}, {"-", third, half, -1, 6}, {"-", name("price"), name("price"), 0, 1}, {"-", name("minus"), whole(math.MinInt), math.MaxInt - 2, 1},
		{"*", half, third, 1, 6}, {"*", name("zero"), name("least"), 0, 1}, {"*", name("minus"), num(-1, 3), 1, 1}, {"*", name("great"), num(1, math.MaxInt), 1, 1},
		{"/", half, third, 3, 2}, {"/", name("zero"), name("minus"), 0, 1}, {"/", name("price"), name("low"), 3, 2}, {"/", name("least"), name("least"), 1, 1},
		{"min", half, third, 1, 3}, {"min", third, half, 1, 3}, {"min", name("least"), name("great"), math.MinInt, 1}, {"min", half, half, 1, 2},
		{"max", half, third, 1, 2}, {"max", third, half, 1, 2}, {"max", name("least"), name("great"), math.MaxInt, 1}, {"max", name("minus"), name("zero"), 0, 1},
		{"min", name("minus"), num(-7, 2), -7, 2}, {"max", name("minus"), num(-7, 2), -3, 1},
		{"max", num(math.MaxInt, math.MaxInt-1), num(math.MaxInt-1, math.MaxInt-2), math.MaxInt - 1, math.MaxInt - 2},
	} {
		checkEval(t, apply(c.op, c.a, c.b), someValues(), api.Rat{Num: c.num, Den: c.den})
	}
}

// P4.1: divisions by 0, and results that do not fit.
func TestEvalOfFailingOperations(t *testing.T) {
	zero, great, least := name("zero"), name("great"), name("least")
	for _, b := range []api.Expr{whole(0), zero, apply("-", great, great)} {
		for _, a := range []api.Expr{whole(1), zero, great, least, num(1, math.MaxInt)} {
			checkEvalFails(t, "a division by 0", apply("/", a, b), someValues(), api.ErrZero)
		}
	}
	for _, e := range []api.Expr{
		greatSum(), apply("+", great, num(1, 2)), apply("-", least, whole(1)), apply("-", zero, least), apply("*", great, whole(2)),
		apply("*", least, name("minus")), apply("/", whole(1), least), apply("/", great, num(1, 2)), apply("+", num(1, math.MaxInt), num(1, math.MaxInt-1)),
	} {
		checkEvalFails(t, "a result that does not fit", e, someValues(), api.ErrRange)
	}
}

// P4.1: the error of the first argument, then that of the second one, then that of the operation.
func TestEvalErrorsInOrder(t *testing.T) {
	failing := map[api.Errno]api.Expr{api.ErrName: name("zeal"), api.ErrZero: divisionByZero(), api.ErrRange: greatSum()}
	for first, a := range failing {
		for _, op := range operators() {
			for _, b := range failing {
				checkEvalFails(t, "two failing arguments", apply(op, a, b), nil, first)
				checkEvalFails(t, "a failing argument before others", apply("-", apply(op, whole(1), a), b), nil, first)
			}
			for _, b := range []api.Expr{whole(0), whole(math.MaxInt), name("low")} {
				checkEvalFails(t, "a failing first argument", apply(op, a, b), someValues(), first)
				checkEvalFails(t, "a failing second argument", apply(op, b, a), someValues(), first)
			}
		}
	}
	// What one of min and max does not need counts as well.
	checkEvalFails(t, "a greater value that does not exist", apply("min", whole(math.MinInt), greatSum()), nil, api.ErrRange)
	checkEvalFails(t, "0 times what does not exist", apply("*", whole(0), divisionByZero()), nil, api.ErrZero)
}

// P4.1: formulas at the limits.
func TestEvalOfLargestFormulas(t *testing.T) {
	checkEval(t, chain(12, name("price")), someValues(), api.Rat{Num: 12 * 90, Den: 1})
	checkEval(t, apply("-", whole(1), chain(11, name("price"))), someValues(), api.Rat{Num: 1 - 11*90, Den: 1})
	checkEval(t, balanced(30, name("low")), someValues(), api.Rat{Num: 30 * 60, Den: 1})
	checkEval(t, sharing(4, name("low")), someValues(), api.Rat{Num: 16 * 60, Den: 1})
}

// P4.1: ErrMany comes before ErrArg, and both before everything else.
func TestEvalOfWrongFormulas(t *testing.T) {
	for _, f := range tooLarge() {
		checkEvalFails(t, f.why, f.expr, someValues(), api.ErrMany)
		checkEvalFails(t, f.why, f.expr, nil, api.ErrMany)
	}
	for _, f := range illFormed() {
		checkEvalFails(t, f.why, f.expr, someValues(), api.ErrArg)
		checkEvalFails(t, f.why, f.expr, nil, api.ErrArg)
	}
}

func randomValues(r *rand.Rand) ([]api.Value, map[string]int) {
	list := []api.Value{
		{Name: "price", N: r.Intn(5)}, {Name: "low", N: 1 + r.Intn(3)}, {Name: "a", N: r.Intn(1000) - 500},
		{Name: "b", N: 1 << r.Intn(63)}, {Name: "great", N: math.MaxInt - r.Intn(3)}, {Name: "least", N: math.MinInt + r.Intn(3)},
	}
	byName := map[string]int{}
	for _, v := range list {
		byName[v.Name] = v.N
	}
	for _, v := range list[:r.Intn(len(list))] {
		list = append(list, api.Value{Name: v.Name, N: 12345})
	}
	return list, byName
}

// P4.1: random formulas have the value, or the error, that exact arithmetic gives them.
func TestEvalIsExact(t *testing.T) {
	r := rand.New(rand.NewSource(4))
	seen := map[api.Errno]int{}
	for range 60000 {
		e := randomFormula(r, r.Intn(8), 12)
		list, byName := randomValues(r)
		want, wantErr := exactValue(e, byName)
		got, err := eval.Eval(e, list)
		seen[err]++
		if err != wantErr || err != api.OK && got != (api.Rat{}) {
			t.Fatalf("Eval of %v for %v: %v, error %d, want error %d", e, list, got, err, wantErr)
		}
		if err == api.OK && (want.Cmp(big.NewRat(int64(got.Num), int64(got.Den))) != 0 || want.Num().Int64() != int64(got.Num)) {
			t.Fatalf("Eval of %v for %v: %v, want %v", e, list, got, want)
		}
	}
	for _, err := range []api.Errno{api.OK, api.ErrName, api.ErrZero, api.ErrRange} {
		if seen[err] < 1000 {
			t.Errorf("only %d results with error %d", seen[err], err)
		}
	}
}

// P4.5: values whose names do not occur in a formula have no effect.
func TestOtherValuesHaveNoEffect(t *testing.T) {
	r := rand.New(rand.NewSource(5))
	for range 2000 {
		e := randomFormula(r, r.Intn(8), 12)
		list, _ := randomValues(r)
		want, wantErr := eval.Eval(e, list)
		mixed := []api.Value{{Name: "zeal", N: r.Int()}, {Name: "", N: r.Int()}, {Name: "num", N: 0}, {Name: "Price", N: 3}}
		for _, v := range list {
			mixed = append(mixed, v, api.Value{Name: v.Name + "_", N: r.Int()})
		}
		if got, err := eval.Eval(e, mixed); got != want || err != wantErr {
			t.Fatalf("Eval of %v for %v: %v, error %d, want %v, error %d", e, mixed, got, err, want, wantErr)
		}
	}
}

// P4.2: the values price and low come before those of the bid.
func TestPoints(t *testing.T) {
	x := api.Entry{Bidder: 3, Lot: 4, Receipt: 5, Price: 90, Values: []api.Value{
		{Name: "comfort", N: 7}, {Name: "price", N: 1}, {Name: "low", N: 2}, {Name: "comfort", N: 8}, {Name: "speed", N: -4},
	}}
	tender := func(e api.Expr) api.Tender {
		return api.Tender{Name: "Chairs", Low: 1000, High: 0, Criteria: []api.Criterion{{Name: "weight", Low: 1, High: 1}}, Formula: e}
	}
	for _, c := range []struct {
		e    api.Expr
		want api.Rat
		err  api.Errno
	}{
		{name("price"), api.Rat{Num: 90, Den: 1}, api.OK},
		{name("low"), api.Rat{Num: 60, Den: 1}, api.OK},
		{name("comfort"), api.Rat{Num: 7, Den: 1}, api.OK},
		{name("speed"), api.Rat{Num: -4, Den: 1}, api.OK},
		{apply("+", apply("/", apply("*", whole(60), name("low")), name("price")), apply("*", num(1, 2), name("comfort"))), api.Rat{Num: 87, Den: 2}, api.OK},
		{name("weight"), api.Rat{}, api.ErrName},
		{name("Bidder"), api.Rat{}, api.ErrName},
		{apply("/", whole(1), apply("-", name("low"), whole(60))), api.Rat{}, api.ErrZero},
		{greatSum(), api.Rat{}, api.ErrRange},
		{api.Expr{}, api.Rat{}, api.ErrArg},
		{balanced(31, name("price")), api.Rat{}, api.ErrMany},
		{looping(2), api.Rat{}, api.ErrMany},
	} {
		if got, err := eval.Points(tender(c.e), x, 60); got != c.want || err != c.err {
			t.Errorf("Points with the formula %v: %v, error %d, want %v, error %d", c.e, got, err, c.want, c.err)
		}
	}
	if got, err := eval.Points(tender(apply("-", name("price"), name("low"))), api.Entry{Price: math.MinInt}, math.MinInt); got != (api.Rat{Num: 0, Den: 1}) || err != api.OK {
		t.Errorf("Points of a bid without values: %v, error %d", got, err)
	}
	if got, err := eval.Points(api.Tender{}, api.Entry{}, 0); got != (api.Rat{}) || err != api.ErrArg {
		t.Errorf("Points in a zero tender: %v, error %d", got, err)
	}
}

// R3: the arguments stay as they are, also the memory behind the values.
func TestEvalAndPointsKeepArguments(t *testing.T) {
	e := apply("/", apply("+", name("a"), name("price")), name("zero"))
	same := twin(e)
	values := append(make([]api.Value, 0, 20), api.Value{Name: "a", N: 1}, api.Value{Name: "zero", N: 0})
	behind := slices.Clone(values[:cap(values)])
	eval.Eval(e, values)
	eval.Points(api.Tender{Formula: e}, api.Entry{Price: 7, Values: values}, 9)
	if !isEqual(e, same) || !reflect.DeepEqual(values[:cap(values)], behind) {
		t.Errorf("the arguments have changed: %v, %v", e, values[:cap(values)])
	}
}
