package prove_test

import (
	"math"
	"math/rand"
	"reflect"
	"slices"
	"testing"

	"probity/api"
	"probity/eval"
	"probity/prove"
	"probity/text"
	"probity/types"
)

func pointsOf(x api.Tender, e api.Entry, low int) (api.Rat, bool) {
	points, err := eval.Points(x, e, low)
	return points, err == api.OK
}

// chosen returns an entry of the example.
func chosen(price, c int) api.Entry { return offer(price, valued("c", c)) }

func checkCheck(t *testing.T, x api.Tender, claim int, want bool, l ...api.Entry) {
	t.Helper()
	if prove.Check(x, claim, l) != want {
		t.Errorf("%s, claim %d: Check of %v is not %v", text.PrintFormula(x.Formula), claim, l, want)
	}
}

// P6.1: lists for claim 1.
func TestCheckMonotone(t *testing.T) {
	up := example(t, "price / 3 + c", "price c")
	checkCheck(t, up, 1, true, chosen(1, 0), chosen(2, 0))
	checkCheck(t, up, 1, true, chosen(2, 1), chosen(3, 1))
	checkCheck(t, up, 1, true, chosen(2, 1), chosen(3, 1), chosen(1, 0))
	checkCheck(t, up, 1, true, chosen(2, 1), chosen(3, 1), chosen(3, 2))
	checkCheck(t, up, 1, false, chosen(2, 0), chosen(1, 0))                             // the first one is worse
	checkCheck(t, up, 1, false, chosen(1, 0), chosen(1, 0))                             // no difference
	checkCheck(t, up, 1, false, chosen(1, 0), chosen(2, 1))                             // two differences
	checkCheck(t, up, 1, false, chosen(1, 1), chosen(1, 0))                             // more points
	checkCheck(t, up, 1, false, chosen(1, 0), chosen(1, 1))                             // worse with less points
	checkCheck(t, up, 1, false, chosen(1, 0))                                           // too short
	checkCheck(t, up, 1, false, chosen(1, 0), chosen(2, 0), chosen(1, 0), chosen(1, 0)) // too long
	checkCheck(t, up, 1, false)

	less := parsed(t, "price 1 3", "criterion c grade 0 2 less", "formula c")
	checkCheck(t, less, 1, true, chosen(3, 0), chosen(3, 2))
	checkCheck(t, less, 1, false, chosen(3, 2), chosen(3, 0))
	same := example(t, "0 * c", "price c")
	checkCheck(t, same, 1, false, chosen(3, 2), chosen(3, 0)) // not less points

	// c counts for low = 2 and 3, and against for low = 1.
	turning := example(t, "(low - 1.5) * c / 2", "price c")
	checkCheck(t, turning, 1, false, chosen(3, 1), chosen(3, 0))
	checkCheck(t, turning, 1, true, chosen(3, 1), chosen(3, 0), chosen(1, 0))
	checkCheck(t, turning, 1, false, chosen(3, 1), chosen(3, 0), chosen(2, 0))
}

// P6.1: lists for claim 2.
func TestCheckStable(t *testing.T) {
	x := example(t, "low / price + c / 4", "price c")
	checkCheck(t, x, 2, true, chosen(2, 0), chosen(3, 1), chosen(1, 0))
	checkCheck(t, x, 2, true, chosen(3, 1), chosen(2, 0), chosen(1, 2))
	checkCheck(t, x, 2, true, chosen(2, 0), chosen(3, 1), chosen(1, 0), chosen(3, 0))
	checkCheck(t, x, 2, true, chosen(2, 0), chosen(3, 1), chosen(1, 0), chosen(2, 0))
	checkCheck(t, x, 2, false, chosen(2, 0), chosen(3, 1), chosen(1, 0), chosen(1, 0)) // the second number is 1, too
	checkCheck(t, x, 2, false, chosen(2, 0), chosen(3, 1), chosen(2, 0), chosen(1, 0)) // the third one is not the cheapest
	checkCheck(t, x, 2, false, chosen(2, 0), chosen(3, 1), chosen(2, 0))
	checkCheck(t, x, 2, false, chosen(2, 0), chosen(3, 1), chosen(3, 0))
	checkCheck(t, x, 2, false, chosen(2, 0), chosen(3, 2), chosen(1, 0)) // less for both
	checkCheck(t, x, 2, false, chosen(2, 0), chosen(2, 0), chosen(1, 0)) // the same for both
	checkCheck(t, x, 2, false, chosen(2, 0), chosen(3, 1))
	checkCheck(t, x, 2, false, chosen(2, 0), chosen(3, 1), chosen(1, 0), chosen(3, 0), chosen(3, 0))
	checkCheck(t, x, 2, false)

	// The same points for low = 1, but not for 2 and 3.
	equal := example(t, "(low - 1) * c / 2", "price c")
	checkCheck(t, equal, 2, true, chosen(3, 0), chosen(3, 1), chosen(1, 0))
	checkCheck(t, equal, 2, true, chosen(3, 1), chosen(3, 0), chosen(1, 0))
	checkCheck(t, equal, 2, false, chosen(3, 1), chosen(3, 0), chosen(2, 0))
	checkCheck(t, equal, 2, true, chosen(3, 1), chosen(3, 0), chosen(1, 0), chosen(2, 0))
}

// P6.1: lists for claim 3.
func TestCheckDecided(t *testing.T) {
	x := example(t, "c", "c")
	checkCheck(t, x, 3, true, chosen(2, 0), chosen(3, 0))
	checkCheck(t, x, 3, true, chosen(3, 0), chosen(2, 0))
	checkCheck(t, x, 3, true, chosen(3, 0), chosen(2, 0), chosen(1, 2))
	checkCheck(t, x, 3, false, chosen(2, 0), chosen(2, 0)) // no difference
	checkCheck(t, x, 3, false, chosen(2, 0), chosen(2, 1)) // other points
	checkCheck(t, x, 3, false, chosen(2, 0))
	checkCheck(t, x, 3, false, chosen(2, 0), chosen(3, 0), chosen(2, 0), chosen(3, 0))
	checkCheck(t, x, 3, false)
	same := example(t, "1", "c")
	checkCheck(t, same, 3, true, chosen(2, 1), chosen(3, 1))
	checkCheck(t, same, 3, false, chosen(2, 0), chosen(3, 1)) // they differ in a tie, too
	checkCheck(t, same, 3, false, chosen(3, 0), chosen(3, 1))
	// The same points for low = 1 only.
	turning := parsed(t, "price 1 3", "criterion c grade 0 2", "tie price", "formula (low - 1) * c / 2")
	checkCheck(t, turning, 3, false, chosen(3, 1), chosen(3, 0))
	checkCheck(t, turning, 3, true, chosen(3, 1), chosen(3, 0), chosen(1, 0))
	checkCheck(t, turning, 3, true, chosen(1, 1), chosen(1, 0))
}

// P6.1: what is no entry shows nothing, at any place of the list.
func TestCheckOfWrongEntries(t *testing.T) {
	x := parsed(t, "price 1 3", "criterion c grade 1 2", "criterion d offer 0 2 less", "formula price / 3 + low / 300 + 0 * d", "tie c")
	full := func(price, c, d int) api.Entry { return offer(price, valued("c", c), valued("d", d)) }
	lists := [][]api.Entry{
		{full(2, 1, 0), full(3, 1, 0), full(1, 1, 2)},
		nil,
		{full(2, 1, 0), full(2, 1, 1), full(1, 2, 2)},
	}
	wrong := []api.Entry{
		full(0, 1, 0), full(4, 1, 0), full(math.MinInt, 1, 0), full(math.MaxInt, 1, 0),
		full(1, 0, 0), full(1, 3, 0), full(1, 1, -1), full(1, 1, 3),
		offer(1, valued("c", 1)), offer(1), offer(1, valued("d", 0), valued("c", 1)), offer(1, valued("c", 1), valued("d", 0), valued("d", 0)),
		offer(1, valued("c", 1), valued("c", 1)), offer(1, valued("c", 1), valued("", 0)), offer(1, valued("price", 1), valued("d", 0)), {},
	}
	for i, l := range lists {
		if l == nil {
			continue
		}
		checkCheck(t, x, i+1, true, l...)
		for place := range l {
			for _, e := range wrong {
				changed := slices.Clone(l)
				changed[place] = e
				checkCheck(t, x, i+1, false, changed...)
			}
		}
	}
	x = example(t, "low / price + c / 4", "price c")
	l := []api.Entry{chosen(2, 0), chosen(3, 1), chosen(1, 0), chosen(3, 0)}
	for place := range l {
		for _, e := range []api.Entry{chosen(0, 0), chosen(4, 0), chosen(3, -1), chosen(3, 3), offer(3), offer(3, valued("d", 0))} {
			changed := slices.Clone(l)
			changed[place] = e
			checkCheck(t, x, 2, false, changed...)
		}
	}
}

// P6.1: Bidder, Lot and Receipt play no part.
func TestCheckIgnoresBidders(t *testing.T) {
	l := []api.Entry{chosen(2, 0), chosen(3, 1), chosen(1, 0)}
	for i := range l {
		l[i].Bidder, l[i].Lot, l[i].Receipt = -7, 1000*i, math.MinInt
	}
	checkCheck(t, example(t, "low / price + c / 4", "price c"), 2, true, l...)
	checkCheck(t, example(t, "0 * c", "c"), 3, true, l[0], l[2])
	checkCheck(t, example(t, "price / 3", "c"), 1, true, l[2], l[0])
}

// P6.1: other claims, and tenders that are not sound.
func TestCheckOfOtherClaimsAndTenders(t *testing.T) {
	x := example(t, "price / 3 * (low - 1) / 2", "c")
	x.Formula, _, _ = text.Formula("price / 3 * (low - 1) / low")
	lists := [][]api.Entry{{chosen(2, 0), chosen(3, 0)}, {chosen(2, 0), chosen(3, 0), chosen(1, 0)}, {chosen(2, 0), chosen(3, 0), chosen(1, 0)}}
	for i, l := range lists {
		checkCheck(t, x, i+1, true, l...)
		for _, claim := range []int{0, -1, 4, 5, math.MinInt, math.MaxInt, 1 << 32} {
			checkCheck(t, x, claim, false, l...)
		}
		unsound := x
		unsound.Times.Questions = 3
		checkCheck(t, unsound, i+1, false, l...)
		unsound = x
		unsound.Name = ""
		checkCheck(t, unsound, i+1, false, l...)
		checkCheck(t, api.Tender{}, i+1, false, l...)
		unsound = x
		unsound.Formula.Args = []api.Expr{{}, {}}
		unsound.Formula.Args[0].Args = unsound.Formula.Args
		checkCheck(t, unsound, i+1, false, l...)
	}
}

// P6.1: entries without points show nothing.
func TestCheckWithoutPoints(t *testing.T) {
	product := partial("c", "249999999.75") + " + " + partial("d", "499999999.75") + " + " + partial("(price / 1)", "124999999.75")
	x := parsed(t, "price 0 2", "criterion c grade 0 2", "criterion d grade 0 2", "formula "+product)
	full := func(price, c, d int) api.Entry { return offer(price, valued("c", c), valued("d", d)) }
	if _, exists := pointsOf(x, full(1, 1, 1), 0); exists {
		t.Fatalf("the points fit")
	}
	for claim := 1; claim <= 3; claim++ {
		checkCheck(t, x, claim, false, full(1, 1, 1), full(1, 0, 1))
		checkCheck(t, x, claim, false, full(1, 0, 1), full(1, 1, 1))
		checkCheck(t, x, claim, false, full(1, 1, 1), full(1, 2, 1), full(0, 0, 0))
		checkCheck(t, x, claim, false, full(2, 1, 1), full(1, 1, 1), full(0, 0, 0))
		checkCheck(t, x, claim, claim == 3, full(2, 2, 2), full(0, 0, 0))
	}
}

// P6.1: for claim 2 both entries need points for both numbers low.
func TestCheckWithPointsForOneNumber(t *testing.T) {
	sum := partial("c", "249999999.75") + " + " + partial("d", "499999999.75") + " + " + partial("(low / 1)", "124999999.75")
	x := parsed(t, "price 0 2", "criterion c grade 0 2", "criterion d grade 0 2", "formula "+sum)
	full := func(price, c, d int) api.Entry { return offer(price, valued("c", c), valued("d", d)) }
	a, b := full(2, 1, 1), full(2, 0, 1)
	if found := signs(x, a, b); len(found) != 2 || found[0] != -1 || found[2] != -1 {
		t.Fatalf("the points compare as %v", found)
	}
	for _, l := range [][]api.Entry{{a, b}, {b, a}} {
		checkCheck(t, x, 2, false, append(l, full(0, 0, 0))...)
		checkCheck(t, x, 2, false, append(l, full(1, 0, 0))...)
		checkCheck(t, x, 2, false, append(l, full(0, 0, 0), full(1, 0, 0))...)
	}
}

// shows is P6.1 in other words.
func shows(x api.Tender, claim int, l []api.Entry) bool {
	if _, err := types.Check(x); err != api.OK || len(l) < 2 {
		return false
	}
	var prices, others []int
	for i, e := range l {
		if !isEntry(x, e) {
			return false
		}
		prices = append(prices, e.Price)
		if i != 2 {
			others = append(others, e.Price)
		}
	}
	names, low := differences(x, l[0], l[1]), slices.Min(prices)
	sign, exists := signs(x, l[0], l[1])[low]
	switch claim {
	case 1:
		return len(l) <= 3 && exists && len(names) == 1 && isBetter(x, names[0], l[0], l[1]) && sign == -1
	case 2:
		later, existsLater := signs(x, l[0], l[1])[slices.Min(others)]
		return len(l) >= 3 && len(l) <= 4 && low < slices.Min(others) && exists && existsLater && sign != later
	case 3:
		return len(l) <= 3 && exists && len(names) > 0 && !tiesDecide(x, names) && sign == 0
	}
	return false
}

func isEntry(x api.Tender, e api.Entry) bool {
	return slices.ContainsFunc(allEntries(x), func(other api.Entry) bool {
		return other.Price == e.Price && slices.Equal(other.Values, e.Values)
	})
}

// randomList returns a list of entries, some of which differ in little, and some of which are no entries.
func randomList(r *rand.Rand, x api.Tender) []api.Entry {
	l := []api.Entry{randomEntry(r, x)}
	for range r.Intn(5) {
		e := randomEntry(r, x)
		if r.Intn(2) == 0 {
			e, _ = withOtherNumber(r, x, l[0])
		}
		if r.Intn(40) == 0 {
			e.Price += r.Intn(3) - 1
		}
		if r.Intn(40) == 0 {
			e.Values = e.Values[1:]
		}
		l = append(l, e)
	}
	return l
}

// P6.1: random lists for random tenders.
func TestCheckOfRandomLists(t *testing.T) {
	r := rand.New(rand.NewSource(61))
	var found [6]int
	for i := range 500 {
		x := randomTender(r)
		if i%2 == 0 {
			x = parsed(t, "price 1 4", "criterion c grade 0 2", oneOf(r, "tie c", "tie price c"),
				"formula "+oneOf(r, "low / price + c / 4", "(low - 2) * c / 3", "c - low / price / 2", "max(c, low / 2) + price / 3"))
		}
		for range 30 {
			l := randomList(r, x)
			for claim := 0; claim <= 4; claim++ {
				want := shows(x, claim, l)
				if want {
					found[claim]++
				}
				checkCheck(t, x, claim, want, l...)
			}
		}
	}
	if found[1] < 90 || found[2] < 90 || found[3] < 90 {
		t.Errorf("only %v lists show something", found)
	}
}

// R3, R4 and R5: arguments stay, and long lists are no problem.
func TestCheckArguments(t *testing.T) {
	x, same := example(t, "low / price + c / 4", "price c"), example(t, "low / price + c / 4", "price c")
	l := []api.Entry{chosen(2, 0), chosen(3, 1), chosen(1, 0)}
	checkCheck(t, x, 2, true, l...)
	checkCheck(t, x, 2, true, l...)
	if !reflect.DeepEqual(x, same) || !reflect.DeepEqual(l, []api.Entry{chosen(2, 0), chosen(3, 1), chosen(1, 0)}) {
		t.Errorf("arguments have changed: %v, %v", x, l)
	}
	long := make([]api.Entry, 1<<20)
	for i := range long {
		long[i] = chosen(1, 0)
	}
	long[0].Values = make([]api.Value, 1<<20)
	for claim := 1; claim <= 3; claim++ {
		checkCheck(t, x, claim, false, long...)
		checkCheck(t, x, claim, false, long[:3]...)
	}
}
