package ratio_test

import (
	"math"
	"math/big"
	"math/rand"
	"strconv"
	"strings"
	"testing"

	"probity/api"
	"probity/ratio"
)

type operation func(a, b api.Rat) (api.Rat, bool)

var zero = api.Rat{Num: 0, Den: 1}

// edgeInts are ints at which signs, magnitudes and products of 64 bits change their behavior.
func edgeInts() []int {
	return []int{
		0, 1, 2, 3, 4, 6, 7, 10, 333333333, 1000000000, 1 << 31, 1<<31 - 1, 1 << 32, 1<<32 + 1, 3037000499, 3037000500,
		1 << 61, 1 << 62, 1<<62 - 1, 1<<62 + 1, math.MaxInt - 2, math.MaxInt - 1, math.MaxInt, math.MaxInt / 7,
		-1, -2, -3, -4, -6, -7, -1000000000, -1 << 31, -1 << 32, -1 << 61, -1 << 62, -1<<62 - 1,
		math.MinInt, math.MinInt + 1, math.MinInt + 2,
	}
}

// wrongRats are not right, each for a reason of its own.
func wrongRats() []api.Rat {
	return []api.Rat{
		{}, {Num: 1, Den: 0}, {Num: -1, Den: 0}, {Num: math.MinInt, Den: 0},
		{Num: 1, Den: -1}, {Num: -1, Den: -2}, {Num: 0, Den: -1}, {Num: 1, Den: math.MinInt}, {Num: math.MinInt, Den: math.MinInt}, {Num: math.MinInt, Den: -1},
		{Num: 0, Den: 2}, {Num: 0, Den: math.MaxInt},
		{Num: 2, Den: 4}, {Num: -2, Den: 4}, {Num: 3, Den: 3}, {Num: math.MinInt, Den: 2}, {Num: math.MinInt, Den: 1 << 62}, {Num: math.MaxInt, Den: 7}, {Num: math.MaxInt, Den: math.MaxInt},
	}
}

// rightRats are all right Rats with an edge int above and one below, and some others.
func rightRats() []api.Rat {
	seen := map[api.Rat]bool{}
	var rats []api.Rat
	keep := func(num, den int) {
		a := api.Rat{Num: num, Den: den}
		if den >= 1 && rightByDefinition(a) && !seen[a] {
			seen[a] = true
			rats = append(rats, a)
		}
	}
	for _, num := range edgeInts() {
		for _, den := range edgeInts() {
			keep(num, den)
		}
	}
	source := rand.New(rand.NewSource(1))
	for range 60 {
		keep(int(source.Uint64()>>source.Intn(64)), int(source.Uint64()>>(1+source.Intn(63))))
	}
	return rats
}

func rightByDefinition(a api.Rat) bool {
	if a.Den < 1 {
		return false
	}
	divisor := new(big.Int).GCD(nil, nil, new(big.Int).Abs(big.NewInt(int64(a.Num))), big.NewInt(int64(a.Den)))
	return divisor.IsInt64() && divisor.Int64() == 1
}

func exact(a api.Rat) *big.Rat { return big.NewRat(int64(a.Num), int64(a.Den)) }

// fitting returns the right Rat with this value and true, or 0 and false.
func fitting(value *big.Rat) (api.Rat, bool) {
	if !value.Num().IsInt64() || !value.Denom().IsInt64() {
		return zero, false
	}
	return api.Rat{Num: int(value.Num().Int64()), Den: int(value.Denom().Int64())}, true
}

func checkResult(t *testing.T, what string, got api.Rat, gotOk bool, want api.Rat, wantOk bool) {
	t.Helper()
	if got != want || gotOk != wantOk {
		t.Errorf("%s: got %v, %v; want %v, %v", what, got, gotOk, want, wantOk)
	}
}

func describe(name string, a, b api.Rat) string {
	show := func(a api.Rat) string { return strconv.Itoa(a.Num) + "/" + strconv.Itoa(a.Den) }
	return name + " of " + show(a) + " and " + show(b)
}

// P1.1

func TestOfIsTheNumber(t *testing.T) {
	for _, n := range edgeInts() {
		if got := ratio.Of(n); got != (api.Rat{Num: n, Den: 1}) {
			t.Errorf("Of(%d) = %v", n, got)
		}
	}
}

func TestMakeExamples(t *testing.T) {
	for _, x := range []struct {
		num, den int
		want     api.Rat
		ok       bool
	}{
		{6, -4, api.Rat{Num: -3, Den: 2}, true},
		{6, 4, api.Rat{Num: 3, Den: 2}, true},
		{-6, -4, api.Rat{Num: 3, Den: 2}, true},
		{0, 5, zero, true},
		{0, -5, zero, true},
		{0, math.MinInt, zero, true},
		{1, 0, zero, false},
		{0, 0, zero, false},
		{math.MinInt, 0, zero, false},
		{math.MinInt, -1, zero, false},
		{math.MinInt, 1, api.Rat{Num: math.MinInt, Den: 1}, true},
		{math.MinInt, math.MinInt, ratio.Of(1), true},
		{1, math.MinInt, zero, false},
		{-1, math.MinInt, zero, false},
		{2, math.MinInt, api.Rat{Num: -1, Den: 1 << 62}, true},
		{math.MinInt, -2, api.Rat{Num: 1 << 62, Den: 1}, true},
		{math.MinInt, -3, zero, false},
		{math.MinInt, 3, api.Rat{Num: math.MinInt, Den: 3}, true},
		{math.MinInt, math.MinInt + 1, zero, false},
		{math.MinInt + 1, math.MinInt, zero, false},
		{math.MaxInt, math.MaxInt, ratio.Of(1), true},
		{math.MaxInt, -math.MaxInt, ratio.Of(-1), true},
		{1, math.MaxInt, api.Rat{Num: 1, Den: math.MaxInt}, true},
		{1, -math.MaxInt, api.Rat{Num: -1, Den: math.MaxInt}, true},
	} {
		got, ok := ratio.Make(x.num, x.den)
		checkResult(t, "Make("+strconv.Itoa(x.num)+", "+strconv.Itoa(x.den)+")", got, ok, x.want, x.ok)
	}
}

func TestMakeIsExact(t *testing.T) {
	for _, num := range edgeInts() {
		for _, den := range edgeInts() {
			want, wantOk := zero, false
			if den != 0 {
				want, wantOk = fitting(big.NewRat(int64(num), int64(den)))
			}
			got, ok := ratio.Make(num, den)
			checkResult(t, "Make("+strconv.Itoa(num)+", "+strconv.Itoa(den)+")", got, ok, want, wantOk)
		}
	}
}

func TestRight(t *testing.T) {
	for _, a := range wrongRats() {
		if ratio.Right(a) {
			t.Errorf("Right(%v)", a)
		}
	}
	for _, num := range edgeInts() {
		for _, den := range edgeInts() {
			a := api.Rat{Num: num, Den: den}
			if ratio.Right(a) != rightByDefinition(a) {
				t.Errorf("Right(%v) = %v", a, ratio.Right(a))
			}
		}
	}
}

// P1.2

func TestOperationExamples(t *testing.T) {
	half, third := api.Rat{Num: 1, Den: 2}, api.Rat{Num: 1, Den: 3}
	for _, x := range []struct {
		name string
		op   operation
		a, b api.Rat
		want string
	}{
		{"Add", ratio.Add, half, third, "5/6"},
		{"Add", ratio.Add, half, half, "1"},
		{"Add", ratio.Add, half, api.Rat{Num: -1, Den: 2}, "0"},
		{"Add", ratio.Add, ratio.Of(math.MaxInt), ratio.Of(1), ""},
		{"Add", ratio.Add, ratio.Of(math.MinInt), ratio.Of(math.MaxInt), "-1"},
		{"Add", ratio.Add, ratio.Of(-1 << 62), ratio.Of(-1 << 62), "-9223372036854775808"},
		{"Add", ratio.Add, ratio.Of(1 << 62), ratio.Of(1 << 62), ""},
		{"Add", ratio.Add, api.Rat{Num: 1, Den: math.MaxInt}, api.Rat{Num: 1, Den: math.MaxInt - 1}, ""},
		{"Add", ratio.Add, api.Rat{Num: math.MaxInt, Den: 2}, api.Rat{Num: math.MaxInt, Den: 2}, "9223372036854775807"},
		{"Sub", ratio.Sub, half, half, "0"},
		{"Sub", ratio.Sub, third, half, "-1/6"},
		{"Sub", ratio.Sub, zero, ratio.Of(math.MinInt), ""},
		{"Sub", ratio.Sub, ratio.Of(-1), ratio.Of(math.MinInt), "9223372036854775807"},
		{"Sub", ratio.Sub, ratio.Of(math.MinInt), ratio.Of(math.MinInt), "0"},
		{"Sub", ratio.Sub, ratio.Of(math.MinInt), zero, "-9223372036854775808"},
		{"Sub", ratio.Sub, ratio.Of(math.MinInt), ratio.Of(1), ""},
		{"Mul", ratio.Mul, half, api.Rat{Num: -2, Den: 3}, "-1/3"},
		{"Mul", ratio.Mul, api.Rat{Num: math.MaxInt, Den: 2}, api.Rat{Num: 2, Den: math.MaxInt}, "1"},
		{"Mul", ratio.Mul, ratio.Of(math.MinInt), ratio.Of(-1), ""},
		{"Mul", ratio.Mul, ratio.Of(math.MinInt), zero, "0"},
		{"Mul", ratio.Mul, ratio.Of(1 << 32), ratio.Of(-1 << 31), "-9223372036854775808"},
		{"Mul", ratio.Mul, ratio.Of(1 << 32), ratio.Of(1 << 31), ""},
		{"Mul", ratio.Mul, ratio.Of(1 << 32), ratio.Of(1 << 32), ""},
		{"Mul", ratio.Mul, api.Rat{Num: 1, Den: 1 << 32}, api.Rat{Num: 1, Den: 1 << 32}, ""},
		{"Mul", ratio.Mul, api.Rat{Num: 1, Den: 1 << 32}, api.Rat{Num: 1, Den: 1 << 31}, ""},
		{"Quo", ratio.Quo, half, api.Rat{Num: -1, Den: 4}, "-2"},
		{"Quo", ratio.Quo, half, zero, ""},
		{"Quo", ratio.Quo, zero, zero, ""},
		{"Quo", ratio.Quo, zero, ratio.Of(-5), "0"},
		{"Quo", ratio.Quo, ratio.Of(1), ratio.Of(math.MinInt), ""},
		{"Quo", ratio.Quo, ratio.Of(2), ratio.Of(math.MinInt), "-1/4611686018427387904"},
		{"Quo", ratio.Quo, ratio.Of(math.MinInt), ratio.Of(math.MinInt), "1"},
		{"Quo", ratio.Quo, ratio.Of(math.MinInt), ratio.Of(-1), ""},
	} {
		got, ok := x.op(x.a, x.b)
		if ok != (x.want != "") || ok && ratio.Text(got) != x.want || !ok && got != zero {
			t.Errorf("%s: got %v, %v; want %q", describe(x.name, x.a, x.b), got, ok, x.want)
		}
	}
}

func TestOperationsAreExact(t *testing.T) {
	rats := rightRats()
	for _, x := range []struct {
		name  string
		op    operation
		exact func(z, a, b *big.Rat) *big.Rat
	}{
		{"Add", ratio.Add, (*big.Rat).Add},
		{"Sub", ratio.Sub, (*big.Rat).Sub},
		{"Mul", ratio.Mul, (*big.Rat).Mul},
		{"Quo", ratio.Quo, (*big.Rat).Quo},
	} {
		result := new(big.Rat)
		for _, a := range rats {
			exactA := exact(a)
			for _, b := range rats {
				want, wantOk := zero, false
				if x.name != "Quo" || b.Num != 0 {
					want, wantOk = fitting(x.exact(result, exactA, exact(b)))
				}
				got, ok := x.op(a, b)
				checkResult(t, describe(x.name, a, b), got, ok, want, wantOk)
			}
		}
	}
}

func TestOperationsRefuseWrongRats(t *testing.T) {
	others := append(wrongRats(), zero, ratio.Of(1), api.Rat{Num: -1, Den: 2}, ratio.Of(math.MinInt))
	for name, op := range map[string]operation{"Add": ratio.Add, "Sub": ratio.Sub, "Mul": ratio.Mul, "Quo": ratio.Quo} {
		for _, wrong := range wrongRats() {
			for _, other := range others {
				got, ok := op(wrong, other)
				checkResult(t, describe(name, wrong, other), got, ok, zero, false)
				got, ok = op(other, wrong)
				checkResult(t, describe(name, other, wrong), got, ok, zero, false)
			}
		}
	}
}

// P1.3

func TestCmpExamples(t *testing.T) {
	for _, x := range []struct {
		a, b api.Rat
		want int
	}{
		{api.Rat{Num: 1, Den: 3}, api.Rat{Num: 333333333, Den: 1000000000}, 1},
		{ratio.Of(-2), api.Rat{Num: 1, Den: 2}, -1},
		{api.Rat{Num: 1, Den: 2}, ratio.Of(-2), 1},
		{ratio.Of(-2), ratio.Of(-3), 1},
		{ratio.Of(-3), ratio.Of(-2), -1},
		{zero, ratio.Of(-1), 1},
		{zero, ratio.Of(1), -1},
		{zero, zero, 0},
		{ratio.Of(math.MinInt), ratio.Of(math.MinInt), 0},
		{ratio.Of(math.MinInt), ratio.Of(math.MaxInt), -1},
		{api.Rat{Num: math.MaxInt - 1, Den: math.MaxInt}, api.Rat{Num: math.MaxInt - 2, Den: math.MaxInt - 1}, 1},
		{api.Rat{Num: math.MinInt, Den: math.MaxInt}, api.Rat{Num: math.MinInt + 1, Den: math.MaxInt - 1}, 1},
	} {
		if got := ratio.Cmp(x.a, x.b); got != x.want {
			t.Errorf("%s: got %d, want %d", describe("Cmp", x.a, x.b), got, x.want)
		}
	}
}

func TestCmpIsExact(t *testing.T) {
	rats := rightRats()
	for _, a := range rats {
		exactA := exact(a)
		for _, b := range rats {
			if got, want := ratio.Cmp(a, b), exactA.Cmp(exact(b)); got != want {
				t.Errorf("%s: got %d, want %d", describe("Cmp", a, b), got, want)
			}
		}
	}
}

func TestCmpOfWrongRats(t *testing.T) {
	for _, wrong := range wrongRats() {
		for _, other := range append(wrongRats(), zero, ratio.Of(7), ratio.Of(-7), ratio.Of(math.MinInt)) {
			if ratio.Cmp(wrong, other) != 0 || ratio.Cmp(other, wrong) != 0 {
				t.Errorf("%s: not 0", describe("Cmp", wrong, other))
			}
		}
	}
}

func TestFloorExamples(t *testing.T) {
	for _, x := range []struct {
		a    api.Rat
		want int
	}{
		{api.Rat{Num: -7, Den: 2}, -4},
		{api.Rat{Num: 7, Den: 2}, 3},
		{api.Rat{Num: -1, Den: math.MaxInt}, -1},
		{api.Rat{Num: 1, Den: math.MaxInt}, 0},
		{zero, 0},
		{ratio.Of(-4), -4},
		{ratio.Of(math.MinInt), math.MinInt},
		{ratio.Of(math.MaxInt), math.MaxInt},
		{api.Rat{Num: math.MinInt, Den: 3}, math.MinInt/3 - 1},
		{api.Rat{Num: math.MinInt, Den: math.MaxInt}, -2},
	} {
		if got := ratio.Floor(x.a); got != x.want {
			t.Errorf("Floor(%v) = %d, want %d", x.a, got, x.want)
		}
	}
}

func TestFloorIsExact(t *testing.T) {
	for _, a := range rightRats() {
		// Euclidean division rounds down, because denominators are positive.
		want := new(big.Int).Div(big.NewInt(int64(a.Num)), big.NewInt(int64(a.Den)))
		if got := ratio.Floor(a); int64(got) != want.Int64() {
			t.Errorf("Floor(%v) = %d, want %s", a, got, want)
		}
	}
	for _, a := range wrongRats() {
		if got := ratio.Floor(a); got != 0 {
			t.Errorf("Floor(%v) = %d", a, got)
		}
	}
}

// P1.4

func TestTextExamples(t *testing.T) {
	for want, a := range map[string]api.Rat{
		"0":                    zero,
		"3":                    ratio.Of(3),
		"-3":                   ratio.Of(-3),
		"5/6":                  {Num: 5, Den: 6},
		"-1/2":                 {Num: -1, Den: 2},
		"-9223372036854775808": ratio.Of(math.MinInt),
		"-9223372036854775808/9223372036854775807": {Num: math.MinInt, Den: math.MaxInt},
		"9223372036854775807/2":                    {Num: math.MaxInt, Den: 2},
	} {
		if got := ratio.Text(a); got != want {
			t.Errorf("Text(%v) = %q, want %q", a, got, want)
		}
	}
	for _, a := range wrongRats() {
		if got := ratio.Text(a); got != "" {
			t.Errorf("Text(%v) = %q", a, got)
		}
	}
}

func TestParseReadsWhatTextWrites(t *testing.T) {
	for _, a := range rightRats() {
		got, ok := ratio.Parse(ratio.Text(a))
		checkResult(t, "Parse of Text of "+ratio.Text(a), got, ok, a, true)
		if want := strings.TrimSuffix(exact(a).String(), "/1"); ratio.Text(a) != want {
			t.Errorf("Text(%v) = %q, want %q", a, ratio.Text(a), want)
		}
	}
}

func TestParseRefusesOtherStrings(t *testing.T) {
	for _, s := range []string{
		"", "/", "1/", "/2", "-", "-/2", "--1", "+1", "+1/2", "1/+2", "1/-2", "-1/-2", "1/2/3", "1//2",
		"2/4", "-2/4", "3/1", "-3/1", "0/1", "0/2", "1/0", "0/0", "-0", "-0/3", "-9223372036854775808/2",
		"01", "00", "-01", "01/2", "1/02", " 1", "1 ", "1 /2", "1/ 2", "1\n", "1\x00", "1.0", "0.5", "1e3", "0x1", "1_000", "1/1_0",
		"9223372036854775808", "-9223372036854775809", "1/9223372036854775808", "9223372036854775808/1", "18446744073709551617",
		"a", "1a", "a/b", "\xff", "\u0661", strings.Repeat("1", 100000), strings.Repeat("1/", 50000), strings.Repeat("0", 50000) + "1",
	} {
		got, ok := ratio.Parse(s)
		if len(s) > 40 {
			s = s[:40]
		}
		checkResult(t, "Parse of "+strconv.Quote(s), got, ok, zero, false)
	}
}

// shortTexts are the texts of at most 4 bytes, written without Text.
func shortTexts() map[string]api.Rat {
	texts := map[string]api.Rat{}
	for num := -999; num <= 9999; num++ {
		texts[strconv.Itoa(num)] = ratio.Of(num)
	}
	for num := -9; num <= 99; num++ {
		for den := 2; den <= 99; den++ {
			a := api.Rat{Num: num, Den: den}
			if s := strconv.Itoa(num) + "/" + strconv.Itoa(den); len(s) <= 4 && rightByDefinition(a) {
				texts[s] = a
			}
		}
	}
	return texts
}

func TestParseOfShortStrings(t *testing.T) {
	texts, found := shortTexts(), 0
	var extend func(s string)
	extend = func(s string) {
		want, wantOk := texts[s]
		if wantOk {
			found++
		} else {
			want = zero
		}
		got, ok := ratio.Parse(s)
		checkResult(t, "Parse of "+strconv.Quote(s), got, ok, want, wantOk)
		if len(s) < 4 {
			for _, c := range "0123456789/-+ _." {
				extend(s + string(c))
			}
		}
	}
	extend("")
	if found != len(texts) {
		t.Errorf("%d of %d texts were tried", found, len(texts))
	}
}

// P1.5

// fieldRats is a small sample: its triples are many.
func fieldRats() []api.Rat {
	return []api.Rat{
		zero, ratio.Of(1), ratio.Of(-1), ratio.Of(7), {Num: 1, Den: 2}, {Num: -2, Den: 3}, {Num: 5, Den: 6}, {Num: 333333333, Den: 1000000000},
		{Num: 1 << 31, Den: 3}, {Num: -3, Den: 1 << 31}, ratio.Of(1 << 62), {Num: 1, Den: 1 << 62}, ratio.Of(math.MaxInt), {Num: 1, Den: math.MaxInt},
		{Num: math.MaxInt, Den: math.MaxInt - 1}, ratio.Of(math.MinInt), {Num: math.MinInt, Den: math.MaxInt}, {Num: math.MinInt, Den: 3},
	}
}

func agree(t *testing.T, law string, left api.Rat, leftOk bool, right api.Rat, rightOk bool) {
	t.Helper()
	if leftOk && rightOk && left != right {
		t.Errorf("%s: %v and %v", law, left, right)
	}
}

// twice is the second operation on the result of the first one, if both fit.
func twice(first, second operation, a, b, c api.Rat) (api.Rat, bool) {
	result, ok := first(a, b)
	if !ok {
		return zero, false
	}
	return second(result, c)
}

func TestFieldLaws(t *testing.T) {
	turned := func(op operation) operation {
		return func(a, b api.Rat) (api.Rat, bool) { return op(b, a) }
	}
	for _, a := range fieldRats() {
		for _, b := range fieldRats() {
			for name, op := range map[string]operation{"Add": ratio.Add, "Mul": ratio.Mul} {
				left, leftOk := op(a, b)
				right, rightOk := op(b, a)
				checkResult(t, describe("commutative "+name, a, b), left, leftOk, right, rightOk)
				for _, c := range fieldRats() {
					left, leftOk := twice(op, op, a, b, c)
					right, rightOk := twice(op, turned(op), b, c, a)
					agree(t, "associative "+name, left, leftOk, right, rightOk)
				}
			}
			for _, c := range fieldRats() {
				left, leftOk := twice(ratio.Add, ratio.Mul, a, b, c)
				ac, acOk := ratio.Mul(a, c)
				bc, bcOk := ratio.Mul(b, c)
				right, rightOk := ratio.Add(ac, bc)
				agree(t, "distributive", left, leftOk, right, rightOk && acOk && bcOk)
			}
		}
	}
}

func TestNeutralAndInverse(t *testing.T) {
	for _, a := range rightRats() {
		sum, sumOk := ratio.Add(a, zero)
		checkResult(t, describe("Add", a, zero), sum, sumOk, a, true)
		product, productOk := ratio.Mul(a, ratio.Of(1))
		checkResult(t, describe("Mul", a, ratio.Of(1)), product, productOk, a, true)
		if opposite, ok := ratio.Sub(zero, a); ok {
			sum, sumOk = ratio.Add(a, opposite)
			checkResult(t, describe("Add", a, opposite), sum, sumOk, zero, true)
		} else if a.Num != math.MinInt {
			t.Errorf("no opposite of %v", a)
		}
		if inverse, ok := ratio.Quo(ratio.Of(1), a); ok {
			product, productOk = ratio.Mul(a, inverse)
			checkResult(t, describe("Mul", a, inverse), product, productOk, ratio.Of(1), true)
		} else if a.Num != math.MinInt && a.Num != 0 {
			t.Errorf("no inverse of %v", a)
		}
	}
}

func TestUndoing(t *testing.T) {
	rats := rightRats()
	for _, a := range rats {
		for _, b := range rats {
			if sum, ok := ratio.Add(a, b); ok {
				back, backOk := ratio.Sub(sum, b)
				checkResult(t, describe("Sub after Add", a, b), back, backOk, a, true)
			}
			if product, ok := ratio.Mul(a, b); ok && b.Num != 0 {
				back, backOk := ratio.Quo(product, b)
				checkResult(t, describe("Quo after Mul", a, b), back, backOk, a, true)
			}
		}
	}
}

func TestCmpIsTheSignOfTheDifferenceAndAnOrder(t *testing.T) {
	rats := fieldRats()
	for _, a := range rats {
		for _, b := range rats {
			order := ratio.Cmp(a, b)
			if difference, ok := ratio.Sub(a, b); ok && order != ratio.Cmp(difference, zero) {
				t.Errorf("%s: %d, and the difference is %v", describe("Cmp", a, b), order, difference)
			}
			if order != -ratio.Cmp(b, a) || (order == 0) != (a == b) {
				t.Errorf("%s: %d is not antisymmetric", describe("Cmp", a, b), order)
			}
			for _, c := range rats {
				if order <= 0 && ratio.Cmp(b, c) <= 0 && ratio.Cmp(a, c) > 0 {
					t.Errorf("%s: not transitive with %v", describe("Cmp", a, b), c)
				}
			}
		}
	}
}

// The promises of the whole document: no call depends on what was called before.

func TestCallsHoldNoState(t *testing.T) {
	a, b := api.Rat{Num: math.MinInt, Den: 3}, api.Rat{Num: 5, Den: 7}
	first, firstOk := ratio.Sub(a, b)
	ratio.Add(ratio.Of(math.MaxInt), ratio.Of(1))
	ratio.Quo(a, zero)
	ratio.Parse("x")
	second, secondOk := ratio.Sub(a, b)
	checkResult(t, describe("Sub", a, b), second, secondOk, first, firstOk)
	if a != (api.Rat{Num: math.MinInt, Den: 3}) || b != (api.Rat{Num: 5, Den: 7}) {
		t.Error("an argument was changed")
	}
}
