package score_test

import (
	"math"
	"math/rand"
	"reflect"
	"slices"
	"strconv"
	"testing"

	"probity/api"
	"probity/score"
)

func rat(num, den int) api.Rat { return api.Rat{Num: num, Den: den} }

func one() api.Rat { return rat(1, 1) }

// fabric returns a tender with three criteria, of which smaller days are better, and the given ties.
func fabric(ties ...string) api.Tender {
	return api.Tender{
		Name: "Fabric",
		Lots: []api.Lot{{Id: 1, Most: 500}, {Id: 2, Most: 500}},
		Low:  1, High: 500,
		Criteria: []api.Criterion{
			{Name: "quality", Kind: api.KindGrade, High: 10},
			{Name: "days", Kind: api.KindOffer, High: 90, Less: true},
			{Name: "years", Kind: api.KindOffer, High: 9},
		},
		Ties: ties,
	}
}

// bale returns a bid for lot 1 of the tender above.
func bale(receipt, price, quality, days, years int) api.Entry {
	return api.Entry{Bidder: 100 - receipt, Lot: 1, Receipt: receipt, Price: price, Values: []api.Value{{Name: "quality", N: quality}, {Name: "days", N: days}, {Name: "years", N: years}}}
}

// checkBetter checks that the first of two bids is better, and the second one is not.
func checkBetter(t *testing.T, why string, x api.Tender, a, b api.Entry, p, q api.Rat) {
	t.Helper()
	if !score.Better(x, a, b, p, q) {
		t.Errorf("%s: the bid %v with %v is not better than %v with %v", why, a, p, b, q)
	}
	if score.Better(x, b, a, q, p) {
		t.Errorf("%s: the bid %v with %v is better than %v with %v", why, b, q, a, p)
	}
}

// checkEqual checks that none of two bids is better.
func checkEqual(t *testing.T, why string, x api.Tender, a, b api.Entry, p, q api.Rat) {
	t.Helper()
	if score.Better(x, a, b, p, q) || score.Better(x, b, a, q, p) {
		t.Errorf("%s: one of the bids %v with %v and %v with %v is better", why, a, p, b, q)
	}
}

// P5.1, 1: points decide before everything else.
func TestBetterByPoints(t *testing.T) {
	x := fabric("price", "quality", "days", "years")
	best, worst := bale(1, 10, 10, 0, 9), bale(2, 90, 0, 90, 0)
	for _, p := range [][2]api.Rat{
		{rat(1, 1), rat(0, 1)}, {rat(1, 2), rat(1, 3)}, {rat(-1, 3), rat(-1, 2)}, {rat(0, 1), rat(-1, 9)}, {rat(2, 1), rat(199, 100)},
		{rat(333333337, 1000000000), rat(1, 3)}, {rat(math.MaxInt, 1), rat(math.MinInt, 1)}, {rat(math.MaxInt-1, math.MaxInt-2), rat(math.MaxInt, math.MaxInt-1)},
	} {
		more, less := p[0], p[1]
		checkBetter(t, "points", x, worst, best, more, less)
		checkBetter(t, "points", x, best, worst, more, less)
		checkBetter(t, "points", x, best, worst, more, more)
	}
}

// P5.1, 1: points of which one is not in lowest terms are no difference (ratio.Cmp is 0).
func TestBetterByWrongPoints(t *testing.T) {
	x := fabric("price")
	for _, wrong := range []api.Rat{{}, rat(2, 4), rat(1, -1), rat(5, 0), rat(0, 2), rat(math.MinInt, math.MinInt)} {
		checkBetter(t, "wrong points", x, bale(2, 10, 0, 0, 0), bale(1, 20, 0, 0, 0), wrong, one())
		checkBetter(t, "wrong points", x, bale(2, 10, 0, 0, 0), bale(1, 20, 0, 0, 0), one(), wrong)
		checkBetter(t, "wrong points", x, bale(1, 10, 0, 0, 0), bale(2, 10, 0, 0, 0), rat(0, 1), wrong)
	}
}

// P5.1, 2: the elements of Ties in order.
func TestBetterByTies(t *testing.T) {
	base := bale(5, 50, 5, 50, 5)
	better := map[string]api.Entry{
		"price":   bale(6, 49, 5, 50, 5),
		"quality": bale(6, 50, 6, 50, 5),
		"days":    bale(6, 50, 5, 49, 5),
		"years":   bale(6, 50, 5, 50, 6),
	}
	worse := map[string]api.Entry{
		"price":   bale(4, 51, 5, 50, 5),
		"quality": bale(4, 50, 4, 50, 5),
		"days":    bale(4, 50, 5, 51, 5),
		"years":   bale(4, 50, 5, 50, 4),
	}
	for name := range better {
		checkBetter(t, "a tie by "+name, fabric(name), better[name], base, one(), one())
		checkBetter(t, "a tie by "+name, fabric(name), base, worse[name], one(), one())
		checkBetter(t, "a tie by others", fabric(slices.DeleteFunc([]string{"price", "quality", "days", "years"}, func(n string) bool { return n == name })...), base, better[name], one(), one())
	}
	first := bale(9, 40, 0, 90, 9)
	second := bale(8, 50, 9, 10, 9)
	checkBetter(t, "price first", fabric("price", "quality", "days"), first, second, one(), one())
	checkBetter(t, "quality first", fabric("quality", "price"), second, first, one(), one())
	checkBetter(t, "days first", fabric("days", "price"), second, first, one(), one())
	checkBetter(t, "years first, which are equal", fabric("years", "price", "days"), first, second, one(), one())
	checkBetter(t, "years alone, which are equal", fabric("years"), second, first, one(), one())
	checkBetter(t, "a tie twice", fabric("years", "years", "price", "price", "days"), first, second, one(), one())
}

// P5.1, 2: elements that are neither price nor the name of a criterion decide nothing.
func TestBetterByOtherTies(t *testing.T) {
	a, b := bale(2, 10, 9, 1, 9), bale(1, 20, 1, 9, 1)
	a.Values = append(a.Values, api.Value{Name: "weight", N: 1}, api.Value{Name: "low", N: 1}, api.Value{N: 1})
	b.Values = append(b.Values, api.Value{Name: "weight", N: 2}, api.Value{Name: "low", N: 2}, api.Value{N: 2})
	checkBetter(t, "unknown ties", fabric("weight", "low", "", "Price", "receipt", " price", "points"), b, a, one(), one())
	checkBetter(t, "unknown ties before a known one", fabric("weight", "low", "", "price"), a, b, one(), one())
	checkBetter(t, "no ties", fabric(), b, a, one(), one())
	empty := fabric("")
	empty.Criteria[0].Name = ""
	checkBetter(t, "an empty name of a criterion", empty, b, a, one(), one())
	empty.Criteria[0].Less = true
	checkBetter(t, "an empty name of a criterion", empty, a, b, one(), one())
}

// P5.1, 2: a name without a value in one of the bids decides nothing; of several values the first one decides.
func TestBetterByMissingAndDoubleValues(t *testing.T) {
	value := func(name string, n int) api.Value { return api.Value{Name: name, N: n} }
	bid := func(receipt int, values ...api.Value) api.Entry { return api.Entry{Receipt: receipt, Values: values} }
	for _, name := range []string{"quality", "days"} {
		x := fabric(name)
		checkBetter(t, "no values", x, bid(1), bid(2), one(), one())
		for _, n := range []int{-1, 0, 1} {
			checkBetter(t, "no value in the second bid", x, bid(1, value(name, n)), bid(2, value("years", 5)), one(), one())
			checkBetter(t, "no value in the first bid", x, bid(1), bid(2, value(name, n)), one(), one())
		}
	}
	x := fabric("quality", "years")
	checkBetter(t, "a missing value before another one", x, bid(2, value("quality", 1), value("years", 2)), bid(1, value("years", 1)), one(), one())
	checkBetter(t, "double values", x, bid(2, value("years", 1), value("quality", 3), value("quality", 1)), bid(1, value("quality", 2), value("years", 9), value("quality", 9)), one(), one())
	checkBetter(t, "double values with equal first ones", x, bid(1, value("quality", 3), value("quality", 1)), bid(2, value("quality", 3), value("quality", 9)), one(), one())
	checkBetter(t, "a first value of 0", x, bid(2, value("quality", 0), value("quality", -9)), bid(1, value("quality", -1), value("quality", 9)), one(), one())
}

// P5.1, 2: of several criteria with one name, the first one says whether smaller values are better.
func TestBetterByDoubleCriteria(t *testing.T) {
	x := fabric("days")
	x.Criteria = append(x.Criteria, api.Criterion{Name: "days"})
	checkBetter(t, "first less, then more", x, bale(2, 10, 0, 1, 0), bale(1, 10, 0, 2, 0), one(), one())
	slices.Reverse(x.Criteria)
	checkBetter(t, "first more, then less", x, bale(2, 10, 0, 2, 0), bale(1, 10, 0, 1, 0), one(), one())
	x = fabric("price")
	x.Criteria = append(x.Criteria, api.Criterion{Name: "price"})
	a, b := bale(2, 10, 0, 0, 0), bale(1, 20, 0, 0, 0)
	a.Values = append(a.Values, api.Value{Name: "price", N: 1})
	b.Values = append(b.Values, api.Value{Name: "price", N: 2})
	checkBetter(t, "price is the price of the bid", x, a, b, one(), one())
}

// P5.1, 3: at last the lesser receipt decides; bids with one receipt are equal, whatever else differs.
func TestBetterByReceipts(t *testing.T) {
	for _, r := range [][2]int{{1, 2}, {0, 1}, {-1, 0}, {-9, -8}, {math.MinInt, math.MaxInt}, {math.MinInt, 0}, {0, math.MaxInt}} {
		checkBetter(t, "receipts", fabric("price", "quality"), bale(r[0], 10, 5, 5, 5), bale(r[1], 10, 5, 5, 5), one(), one())
		checkBetter(t, "receipts", api.Tender{}, bale(r[0], 20, 5, 5, 5), bale(r[1], 10, 5, 5, 5), one(), one())
		checkEqual(t, "one receipt", fabric("price", "quality"), bale(r[0], 10, 5, 1, 2), bale(r[0], 10, 5, 2, 1), one(), one())
	}
	a, b := bale(1, 10, 5, 5, 5), bale(1, 10, 5, 5, 5)
	a.Bidder, a.Lot = -3, 77
	checkEqual(t, "bidder and lot", fabric("price", "quality", "days", "years"), a, b, one(), one())
	checkEqual(t, "zero arguments", api.Tender{}, api.Entry{}, api.Entry{}, api.Rat{}, api.Rat{})
}

// P5.1: extreme numbers are compared without overflow.
func TestBetterByExtremes(t *testing.T) {
	for _, n := range [][2]int{{math.MinInt, math.MaxInt}, {math.MinInt, 1}, {-2, math.MaxInt}} {
		checkBetter(t, "prices", fabric("price"), bale(2, n[0], 0, 0, 0), bale(1, n[1], 0, 0, 0), one(), one())
		checkBetter(t, "quality", fabric("quality"), bale(2, 0, n[1], 0, 0), bale(1, 0, n[0], 0, 0), one(), one())
		checkBetter(t, "days", fabric("days"), bale(2, 0, 0, n[0], 0), bale(1, 0, 0, n[1], 0), one(), one())
	}
}

// isBetter is the contract of P5.1 in other words, for right points.
func isBetter(x api.Tender, a, b api.Entry, p, q api.Rat) bool {
	if left, right := p.Num*q.Den, q.Num*p.Den; left != right {
		return left > right
	}
	first := func(values []api.Value, name string) (int, bool) {
		for _, v := range values {
			if v.Name == name {
				return v.N, true
			}
		}
		return 0, false
	}
	for _, tie := range x.Ties {
		if tie == "price" {
			if a.Price != b.Price {
				return a.Price < b.Price
			}
			continue
		}
		for _, c := range x.Criteria {
			if c.Name != tie {
				continue
			}
			m, hasFirst := first(a.Values, tie)
			n, hasSecond := first(b.Values, tie)
			if hasFirst && hasSecond && m != n {
				return m > n != c.Less
			}
			break
		}
	}
	return a.Receipt < b.Receipt
}

func randomTies(r *rand.Rand) []string {
	var ties []string
	for range r.Intn(5) {
		ties = append(ties, []string{"price", "quality", "days", "years", "low", ""}[r.Intn(6)])
	}
	return ties
}

// P5.1: random bids.
func TestBetterRandom(t *testing.T) {
	r := rand.New(rand.NewSource(1))
	randomBid := func() api.Entry {
		x := api.Entry{Price: r.Intn(2), Receipt: r.Intn(2)}
		for range r.Intn(5) {
			x.Values = append(x.Values, api.Value{Name: []string{"quality", "days", "years", ""}[r.Intn(4)], N: r.Intn(2)})
		}
		return x
	}
	seen := map[bool]int{}
	for range 50000 {
		x := fabric(randomTies(r)...)
		r.Shuffle(len(x.Criteria), func(i, j int) { x.Criteria[i], x.Criteria[j] = x.Criteria[j], x.Criteria[i] })
		x.Criteria[r.Intn(3)].Name = []string{"quality", "days", "years", "", "price"}[r.Intn(5)]
		p, q := rat(1+r.Intn(2), 3), rat(1+r.Intn(2), 3)
		a, b := randomBid(), randomBid()
		got, want := score.Better(x, a, b, p, q), isBetter(x, a, b, p, q)
		seen[got]++
		if got != want {
			t.Fatalf("Better of %v with %v and %v with %v, ties %q, criteria %v: %v", a, p, b, q, x.Ties, x.Criteria, got)
		}
	}
	if seen[true] < 1000 || seen[false] < 1000 {
		t.Errorf("results are one-sided: %v", seen)
	}
}

// R5: long lists are no obstacle.
func TestBetterWithLongLists(t *testing.T) {
	const many = 50000
	var x api.Tender
	var a, b api.Entry
	for i := range many {
		name := strconv.Itoa(i)
		x.Criteria = append(x.Criteria, api.Criterion{Name: name})
		x.Ties = append(x.Ties, strconv.Itoa(many-1-i))
		a.Values = append(a.Values, api.Value{Name: name, N: i})
		b.Values = append(b.Values, api.Value{Name: name, N: i})
	}
	checkEqual(t, "equal values", x, a, b, one(), one())
	b.Values[0].N = -1
	checkBetter(t, "the last tie", x, a, b, one(), one())
}

// R3: the arguments stay as they are.
func TestBetterKeepsArguments(t *testing.T) {
	x, a, b := fabric("quality", "quality", "price"), bale(1, 20, 5, 5, 5), bale(2, 10, 5, 5, 5)
	score.Better(x, a, b, one(), one())
	if !reflect.DeepEqual(x, fabric("quality", "quality", "price")) || !reflect.DeepEqual(a, bale(1, 20, 5, 5, 5)) || !reflect.DeepEqual(b, bale(2, 10, 5, 5, 5)) {
		t.Error("Better has changed its arguments")
	}
}
