package types_test

import (
	"math/big"
	"reflect"
	"testing"

	"probity/api"
	"probity/ratio"
	"probity/types"
)

// smallTender has few values, so that all of them can be tried.
func smallTender() api.Tender {
	return api.Tender{Low: 1, High: 3, Criteria: []api.Criterion{{Name: "c", Low: -1, High: 1}, {Name: "d", Low: 2, High: 2}}}
}

func operators() []string { return []string{"+", "-", "*", "/", "min", "max"} }

// allExprs calls do for all expressions with at most this depth and these leaves.
func allExprs(depth int, leaves []api.Expr, do func(e api.Expr)) {
	for _, e := range leaves {
		do(e)
	}
	if depth == 1 {
		return
	}
	allExprs(depth-1, leaves, func(a api.Expr) {
		allExprs(depth-1, leaves, func(b api.Expr) {
			for _, op := range operators() {
				do(apply(op, a, b))
			}
		})
	})
}

// exact returns the value of an expression, and whether no division by 0 occurs.
func exact(e api.Expr, values map[string]*big.Rat) (*big.Rat, bool) {
	switch e.Op {
	case "num":
		return big.NewRat(int64(e.Num.Num), int64(e.Num.Den)), true
	case "name":
		return values[e.Name], true
	}
	a, aExists := exact(e.Args[0], values)
	b, bExists := exact(e.Args[1], values)
	if !aExists || !bExists || e.Op == "/" && b.Sign() == 0 {
		return nil, false
	}
	switch e.Op {
	case "+":
		return new(big.Rat).Add(a, b), true
	case "-":
		return new(big.Rat).Sub(a, b), true
	case "*":
		return new(big.Rat).Mul(a, b), true
	case "/":
		return new(big.Rat).Quo(a, b), true
	}
	if (a.Cmp(b) < 0) == (e.Op == "min") {
		return a, true
	}
	return b, true
}

func bigOf(a api.Rat) *big.Rat { return big.NewRat(int64(a.Num), int64(a.Den)) }

// assignments returns all values of the names of smallTender.
func assignments() []map[string]*big.Rat {
	var all []map[string]*big.Rat
	for price := range 3 {
		for low := range 3 {
			for c := range 3 {
				all = append(all, map[string]*big.Rat{
					"price": big.NewRat(int64(price+1), 1), "low": big.NewRat(int64(low+1), 1), "c": big.NewRat(int64(c-1), 1), "d": big.NewRat(2, 1),
				})
			}
		}
	}
	return all
}

// P3.5: all values lie in the interval, and no division by 0 occurs.
func TestValuesLieInTheInterval(t *testing.T) {
	values := assignments()
	exprs, intervals := 0, 0
	allExprs(3, []api.Expr{name("price"), name("c"), num(3, 2)}, func(e api.Expr) {
		exprs++
		if exprs%7 != 0 {
			return
		}
		low, high, err := types.Range(smallTender(), e)
		if err != api.OK {
			return
		}
		intervals++
		for _, v := range values {
			if x, exists := exact(e, v); !exists || x.Cmp(bigOf(low)) < 0 || x.Cmp(bigOf(high)) > 0 {
				t.Fatalf("%v for %v: %v, %v, which is not from %v to %v", e, v, x, exists, low, high)
			}
		}
	})
	if intervals < 1000 {
		t.Errorf("only %d intervals", intervals)
	}
}

// P3.3 and P3.5: for operators on names that occur once, the ends are values.
func TestEndsAreValues(t *testing.T) {
	leaves := []api.Expr{name("price"), name("low"), name("c"), name("d"), num(3, 2)}
	allExprs(2, leaves, func(e api.Expr) {
		if len(e.Args) == 2 && e.Args[0].Name == e.Args[1].Name {
			return
		}
		low, high, err := types.Range(smallTender(), e)
		least, greatest, exists := (*big.Rat)(nil), (*big.Rat)(nil), true
		for _, v := range assignments() {
			x, ok := exact(e, v)
			if !ok {
				exists = false
				break
			}
			if least == nil || x.Cmp(least) < 0 {
				least = x
			}
			if greatest == nil || x.Cmp(greatest) > 0 {
				greatest = x
			}
		}
		if !exists {
			if err != api.ErrZero {
				t.Errorf("Range of %v: error %d for a division by 0", e, err)
			}
			return
		}
		if err != api.OK || bigOf(low).Cmp(least) != 0 || bigOf(high).Cmp(greatest) != 0 {
			t.Errorf("Range of %v: %v to %v, error %d, want %v to %v", e, low, high, err, least, greatest)
		}
	})
}

// powerOf is the definition of powers, and of the errors of Unit, in other words: it returns how often a price is a factor.
func powerOf(e api.Expr) (int, api.Errno) {
	switch {
	case e.Op == "num" || e.Name == "c" || e.Name == "d":
		return 0, api.OK
	case e.Name == "price" || e.Name == "low":
		return 1, api.OK
	case e.Op == "name":
		return 0, api.ErrName
	}
	a, err := powerOf(e.Args[0])
	if err != api.OK {
		return 0, err
	}
	b, err := powerOf(e.Args[1])
	if err != api.OK {
		return 0, err
	}
	isNumber := [2]bool{e.Args[0].Op == "num", e.Args[1].Op == "num"}
	switch e.Op {
	case "*":
		return a + b, api.OK
	case "/":
		if a == 1 && isNumber[1] {
			return 0, api.OK
		}
		return a - b, api.OK
	}
	switch isNumber {
	case [2]bool{true, false}:
		return b, api.OK
	case [2]bool{false, false}:
		if a != b {
			return 0, api.ErrUnit
		}
	}
	return a, api.OK
}

func unitOf(power int) string {
	return map[int]string{
		-4: "money^-4", -3: "money^-3", -2: "money^-2", -1: "money^-1", 0: "", 1: "money", 2: "money^2", 3: "money^3", 4: "money^4",
	}[power]
}

// P3.2: units of all small expressions.
func TestUnitsOfSmallExpressions(t *testing.T) {
	leaves := []api.Expr{name("low"), name("c"), num(3, 2), name("zeal")}
	allExprs(3, leaves, func(e api.Expr) {
		power, wantErr := powerOf(e)
		want := unitOf(power)
		if got, err := types.Unit(smallTender(), e); got != want || err != wantErr {
			t.Fatalf("Unit of %v: %q, error %d, want %q, error %d", e, got, err, want, wantErr)
		}
	})
}

// P3.5: the unit does not change if the arguments of all sums, or of all products, are exchanged.
func TestUnitsOfExchangedArguments(t *testing.T) {
	x := smallTender()
	allExprs(3, []api.Expr{name("price"), name("c"), num(3, 2)}, func(e api.Expr) {
		unit, err := types.Unit(x, e)
		for _, op := range []string{"+", "*"} {
			if got, gotErr := types.Unit(x, exchanged(e, op)); got != unit || gotErr != err {
				t.Fatalf("Unit of %v: %q, error %d; with exchanged arguments of %s: %q, error %d", e, unit, err, op, got, gotErr)
			}
		}
	})
}

func exchanged(e api.Expr, op string) api.Expr {
	if len(e.Args) == 0 {
		return e
	}
	a, b := exchanged(e.Args[0], op), exchanged(e.Args[1], op)
	if e.Op == op {
		a, b = b, a
	}
	return apply(e.Op, a, b)
}

// P3.5: in what Check accepts, all names of the formula mean something, the formula is a number without a unit, and has an interval.
func TestAcceptedTendersHaveMeanings(t *testing.T) {
	x := chairs(t)
	allExprs(3, []api.Expr{name("price"), name("comfort"), name("zeal"), num(3, 2)}, func(e api.Expr) {
		x.Formula = e
		clause, err := types.Check(x)
		unit, unitErr := types.Unit(x, e)
		_, _, rangeErr := types.Range(x, e)
		accepted := unitErr == api.OK && unit == "" && rangeErr == api.OK
		if (err == api.OK) != accepted || accepted != (clause == "") {
			t.Fatalf("Check with the formula %v: %q, error %d; Unit: %q, error %d; Range: error %d", e, clause, err, unit, unitErr, rangeErr)
		}
		for _, n := range types.Names(e) {
			if err == api.OK && n == "zeal" {
				t.Fatalf("Check accepts %v", e)
			}
		}
	})
}

// P1 and R4: all functions end, and return the same again, for arguments of which nothing is right.
func TestZeroArguments(t *testing.T) {
	for range 2 {
		if clause, err := types.Check(api.Tender{}); clause != "" || err != api.ErrArg {
			t.Errorf("Check of the zero tender: %q, error %d", clause, err)
		}
		if unit, err := types.Unit(api.Tender{}, api.Expr{}); unit != "" || err != api.ErrArg {
			t.Errorf("Unit of the zero expression: %q, error %d", unit, err)
		}
		low, high, err := types.Range(api.Tender{}, api.Expr{})
		if low != (api.Rat{}) || high != (api.Rat{}) || err != api.ErrArg {
			t.Errorf("Range of the zero expression: %v to %v, error %d", low, high, err)
		}
	}
}

// R3: Unit and Range leave their arguments as they are.
func TestArgumentsStay(t *testing.T) {
	x, same := chairs(t), chairs(t)
	types.Unit(x, x.Formula)
	types.Range(x, x.Formula)
	if !reflect.DeepEqual(x, same) {
		t.Errorf("the arguments have changed: %v", x)
	}
	if low, _, _ := types.Range(x, x.Formula); ratio.Text(low) != "3/2500" {
		t.Errorf("Range the second time: %v", low)
	}
}
