package score_test

import (
	"math"
	"math/rand"
	"reflect"
	"slices"
	"testing"

	"probity/api"
	"probity/eval"
	"probity/ratio"
	"probity/score"
	"probity/text"
)

func formula(t *testing.T, s string) api.Expr {
	t.Helper()
	e, at, err := text.Formula(s)
	if err != api.OK {
		t.Fatalf("the formula %q has at %d the error %d", s, at, err)
	}
	return e
}

// chairs returns the tender of the chapter's examples.
func chairs(t *testing.T) api.Tender {
	t.Helper()
	x, _, err := text.Parse("tender Chairs\nlot 1 most 500\ncriterion comfort grade 0 10\nprice 1 500\nformula 0.6 * low / price + 0.04 * comfort\ntie comfort\nbudget 500\ntimes 10 20 30 40 5\n")
	if err != api.OK {
		t.Fatalf("the tender has the error %d", err)
	}
	return x
}

func chair(bidder, price, comfort, receipt int) api.Entry {
	return api.Entry{Bidder: bidder, Lot: 1, Price: price, Receipt: receipt, Values: []api.Value{{Name: "comfort", N: comfort}}}
}

func threeChairs() []api.Entry {
	return []api.Entry{chair(7, 100, 5, 1), chair(8, 200, 10, 2), chair(9, 600, 10, 3)}
}

func checkRank(t *testing.T, why string, x api.Tender, lot int, l []api.Entry, want ...api.Rank) {
	t.Helper()
	got, err := score.Rank(x, lot, l)
	if err != api.OK || !slices.Equal(got, want) {
		t.Errorf("%s: Rank is %v, error %d, want %v", why, got, err, want)
	}
	winner, noWinner := 0, api.ErrNone
	if len(want) > 0 && want[0].Place == 1 {
		winner, noWinner = want[0].Bidder, api.OK
	}
	if w, err := score.Winner(x, lot, l); w != winner || err != noWinner {
		t.Errorf("%s: Winner is %d, error %d, want %d, error %d", why, w, err, winner, noWinner)
	}
}

func checkNoRank(t *testing.T, why string, x api.Tender, lot int, l []api.Entry, want api.Errno) {
	t.Helper()
	if got, err := score.Rank(x, lot, l); len(got) != 0 || err != want {
		t.Errorf("%s: Rank is %v, error %d, want error %d", why, got, err, want)
	}
	if w, err := score.Winner(x, lot, l); w != 0 || err != want {
		t.Errorf("%s: Winner is %d, error %d, want error %d", why, w, err, want)
	}
}

func counts(bidder, place, num, den int) api.Rank {
	return api.Rank{Bidder: bidder, Points: rat(num, den), Place: place}
}

func out(bidder int, err api.Errno) api.Rank { return api.Rank{Bidder: bidder, Out: err} }

// P5.2, P5.3: the examples of the chapter.
func TestRankExamples(t *testing.T) {
	want := []api.Rank{counts(7, 1, 4, 5), counts(8, 2, 7, 10), out(9, api.ErrValue)}
	checkRank(t, "the example", chairs(t), 1, threeChairs(), want...)
	reversed := threeChairs()
	slices.Reverse(reversed)
	checkRank(t, "the example in another order", chairs(t), 1, reversed, want...)
	checkNoRank(t, "the lot 2", chairs(t), 2, threeChairs(), api.ErrNone)
	checkBetter(t, "8 has more comfort", chairs(t), threeChairs()[1], threeChairs()[0], one(), one())
}

// P5.2, P5.3: nothing counts.
func TestRankOfNothing(t *testing.T) {
	checkRank(t, "no entries", chairs(t), 1, nil)
	checkRank(t, "empty entries", chairs(t), 1, []api.Entry{})
	other := threeChairs()
	for i := range other {
		other[i].Lot = 2
	}
	checkRank(t, "entries of another lot", chairs(t), 1, other)
	checkRank(t, "entries that are not admitted", chairs(t), 1, []api.Entry{chair(5, 501, 1, 1), chair(4, 0, 2, 2), chair(3, 9, 11, 3)}, out(5, api.ErrValue), out(4, api.ErrValue), out(3, api.ErrValue))
	x := chairs(t)
	x.Formula = formula(t, "1 / (price - low)")
	checkRank(t, "an entry without points", x, 1, []api.Entry{chair(5, 20, 1, 1)}, out(5, api.ErrZero))
	x.Lots[0].Id = 0
	checkRank(t, "a zero lot", api.Tender{Lots: []api.Lot{{}}}, 0, []api.Entry{{}}, out(0, api.ErrArg))
}

// P5.2: the low price is the least one of the entries of the lot that are admitted, also of those without points.
func TestRankLowPrice(t *testing.T) {
	x := fabric()
	x.Formula = formula(t, "low")
	low := func(why string, want int, l ...api.Entry) {
		t.Helper()
		ranks, err := score.Rank(x, 1, l)
		if err != api.OK || len(ranks) == 0 || ranks[0].Points != rat(want, 1) {
			t.Errorf("%s: Rank is %v, error %d, want the points %d", why, ranks, err, want)
		}
	}
	a, b, c := bale(1, 30, 5, 5, 5), bale(2, 20, 5, 5, 5), bale(3, 40, 5, 5, 5)
	low("three entries", 20, a, b, c)
	low("one entry", 30, a)
	outside := b
	outside.Values = outside.Values[:2]
	low("an entry that is not admitted", 30, a, outside, c)
	elsewhere := b
	elsewhere.Lot = 2
	low("an entry of another lot", 30, a, elsewhere, c)
	x.Low = -50
	low("a negative price", -7, a, bale(4, -7, 1, 1, 1))
	x.Formula = formula(t, "low + 0 / (price - 20)")
	low("an entry without points", 20, a, b, c)
}

// P5.2: entries that do not count follow in their order, with their errors.
func TestRankReasons(t *testing.T) {
	x := fabric()
	x.Formula = formula(t, "price / quality")
	x.Requires = []api.Require{{Name: "days", Rel: "<=", Value: 50}}
	unnamed := bale(4, 20, 5, 5, 5)
	unnamed.Values = append(unnamed.Values, api.Value{Name: "weight"})
	l := []api.Entry{
		bale(9, 20, 5, 51, 5), bale(8, 20, 0, 5, 5), bale(7, 20, 5, 5, 5), bale(6, 20, 0, 60, 5), bale(5, 0, 0, 60, 5),
		unnamed, bale(3, 80, 5, 50, 5), bale(2, 20, 0, 7, 7), bale(1, 20, 9, 91, 5),
	}
	checkRank(t, "all kinds of errors", x, 1, l, counts(97, 1, 16, 1), counts(93, 2, 4, 1),
		out(91, api.ErrExclude), out(92, api.ErrZero), out(94, api.ErrExclude), out(95, api.ErrValue), out(96, api.ErrName), out(98, api.ErrZero), out(99, api.ErrValue))
	reverse := func(ranks []api.Rank) []api.Rank { slices.Reverse(ranks); return ranks }
	slices.Reverse(l)
	checkRank(t, "in the other order", x, 1, l, append([]api.Rank{counts(97, 1, 16, 1), counts(93, 2, 4, 1)},
		reverse([]api.Rank{out(91, api.ErrExclude), out(92, api.ErrZero), out(94, api.ErrExclude), out(95, api.ErrValue), out(96, api.ErrName), out(98, api.ErrZero), out(99, api.ErrValue)})...)...)
	x.Formula = formula(t, "price * 1000000000 * 1000000000")
	checkRank(t, "points that do not fit", x, 1, l[2:4], out(97, api.ErrRange), out(96, api.ErrName))
	x.Formula = formula(t, "height")
	checkRank(t, "a name that is not known", x, 1, l[2:3], out(97, api.ErrName))
	x.Formula = api.Expr{Op: "num"}
	checkRank(t, "a formula that is not well formed", x, 1, l[2:3], out(97, api.ErrArg))
	x.Formula = endless()
	checkRank(t, "a formula without an end", x, 1, l[2:3], out(97, api.ErrMany))
	x.Requires[0].Rel = "<"
	checkRank(t, "a requirement that is not right", x, 1, l[2:3], out(97, api.ErrArg))
}

// endless returns a formula that contains itself.
func endless() api.Expr {
	args := make([]api.Expr, 2)
	args[0] = api.Expr{Op: "+", Args: args}
	args[1] = api.Expr{Op: "-", Args: args}
	return args[0]
}

// manyChairs returns entries of lot 1 with different bidders and receipts.
func manyChairs(n int) []api.Entry {
	var l []api.Entry
	for i := range n {
		l = append(l, chair(i+1, 100+i, 5, i))
	}
	return l
}

// P5.2: ErrNone before ErrMany before ErrTwice.
func TestRankErrors(t *testing.T) {
	x := chairs(t)
	sameBidder := append(threeChairs(), chair(8, 300, 1, 9))
	sameReceipt := append(threeChairs(), chair(6, 300, 1, 1))
	admittedLast := []api.Entry{chair(8, 900, 1, 4), chair(8, 300, 1, 9)}
	tooMany := manyChairs(api.MaxBids + 1)
	checkNoRank(t, "a bidder twice", x, 1, sameBidder, api.ErrTwice)
	checkNoRank(t, "a receipt twice", x, 1, sameReceipt, api.ErrTwice)
	checkNoRank(t, "a bidder twice, once not admitted", x, 1, admittedLast, api.ErrTwice)
	checkNoRank(t, "the same entry twice", x, 1, append(threeChairs(), chair(9, 600, 10, 3)), api.ErrTwice)
	checkNoRank(t, "41 entries", x, 1, tooMany, api.ErrMany)
	tooMany[40] = tooMany[0]
	checkNoRank(t, "41 entries, one twice", x, 1, tooMany, api.ErrMany)
	for _, l := range [][]api.Entry{nil, threeChairs(), sameBidder, sameReceipt, tooMany} {
		checkNoRank(t, "another lot", x, 2, l, api.ErrNone)
		checkNoRank(t, "lot 0", x, 0, l, api.ErrNone)
		checkNoRank(t, "a negative lot", x, -1, l, api.ErrNone)
		checkNoRank(t, "no tender", api.Tender{}, 1, l, api.ErrNone)
		checkNoRank(t, "no tender and lot 0", api.Tender{}, 0, l, api.ErrNone)
	}
	elsewhere := slices.Clone(tooMany)
	for i := range elsewhere {
		elsewhere[i].Lot = 2
	}
	checkNoRank(t, "entries of a lot that is none", x, 2, elsewhere, api.ErrNone)
}

// P5.2: up to 40 entries, and entries of other lots, are no errors.
func TestRankOfMany(t *testing.T) {
	x := chairs(t)
	l := manyChairs(api.MaxBids)
	ranks, err := score.Rank(x, 1, l)
	if err != api.OK || len(ranks) != api.MaxBids {
		t.Fatalf("Rank of 40 entries: %d ranks, error %d", len(ranks), err)
	}
	for i, r := range ranks {
		if r.Bidder != i+1 || r.Place != i+1 {
			t.Errorf("Rank of 40 entries: %v at %d", r, i)
		}
	}
	more := slices.Clone(l)
	for range 3 {
		for _, e := range l {
			e.Lot = 2
			more = slices.Insert(more, len(more)/2, e)
		}
	}
	checkRank(t, "many entries of another lot", x, 1, more, ranks...)
	shared := append(threeChairs(), chair(7, 100, 5, 1))
	shared[3].Lot = 2
	checkRank(t, "one bidder with one receipt for two lots", x, 1, shared, counts(7, 1, 4, 5), counts(8, 2, 7, 10), out(9, api.ErrValue))
	x.Lots = append(x.Lots, api.Lot{Id: 2, Most: 500})
	checkRank(t, "the other lot", x, 2, shared, counts(7, 1, 4, 5))
}

// P5.2, P5.3: ties of points, unusual bidders and receipts.
func TestRankTies(t *testing.T) {
	x := fabric("quality", "days", "price")
	x.Formula = formula(t, "years")
	l := []api.Entry{bale(4, 30, 5, 5, 5), bale(3, 30, 5, 5, 5), bale(2, 20, 5, 5, 5), bale(5, 40, 5, 4, 5), bale(6, 50, 6, 9, 5), bale(7, 60, 0, 90, 6)}
	checkRank(t, "all kinds of ties", x, 1, l, counts(93, 1, 6, 1), counts(94, 2, 5, 1), counts(95, 3, 5, 1), counts(98, 4, 5, 1), counts(97, 5, 5, 1), counts(96, 6, 5, 1))
	l[0].Bidder, l[0].Receipt = 0, math.MinInt
	l[1].Bidder, l[1].Receipt = math.MinInt, math.MaxInt
	l[5].Bidder = -4
	checkRank(t, "unusual numbers", x, 1, l, counts(-4, 1, 6, 1), counts(94, 2, 5, 1), counts(95, 3, 5, 1), counts(98, 4, 5, 1), counts(0, 5, 5, 1), counts(math.MinInt, 6, 5, 1))
	x.Lots[0].Id = -8
	for i := range l {
		l[i].Lot = -8
	}
	checkRank(t, "an unusual lot, winner 0", x, -8, l[:2], counts(0, 1, 5, 1), counts(math.MinInt, 2, 5, 1))
}

// rankByDefinition is the contract of P5.2 in other words, for entries without an error.
func rankByDefinition(x api.Tender, lot int, l []api.Entry) []api.Rank {
	low, found := 0, false
	for _, e := range l {
		if e.Lot == lot && eval.Admit(x, e) == api.OK && (!found || e.Price < low) {
			low, found = e.Price, true
		}
	}
	var ranks []api.Rank
	var counting []api.Entry
	points := map[int]api.Rat{}
	for _, e := range l {
		if e.Lot != lot {
			continue
		}
		err := eval.Admit(x, e)
		if err == api.OK {
			points[e.Bidder], err = eval.Points(x, e, low)
		}
		if err == api.OK {
			counting = append(counting, e)
		} else {
			ranks = append(ranks, api.Rank{Bidder: e.Bidder, Out: err})
		}
	}
	first := make([]api.Rank, len(counting))
	for _, e := range counting {
		place := 1
		for _, other := range counting {
			if isBetter(x, other, e, points[other.Bidder], points[e.Bidder]) {
				place++
			}
		}
		first[place-1] = api.Rank{Bidder: e.Bidder, Points: points[e.Bidder], Place: place}
	}
	return append(first, ranks...)
}

// randomRanking returns a tender, and entries of which none is twice.
func randomRanking(t *testing.T, r *rand.Rand) (api.Tender, []api.Entry) {
	x := fabric(randomTies(r)...)
	x.Formula = formula(t, []string{"low / price", "quality - price", "quality / days", "years", "price", "low + quality", "min(quality, 1) + 1 / (price - low - 1)"}[r.Intn(7)])
	x.Low, x.High = r.Intn(2), 3+r.Intn(2)
	x.Criteria[0].High = 1 + r.Intn(2)
	if r.Intn(2) == 0 {
		x.Requires = []api.Require{{Name: "years", Rel: ">=", Value: 1}}
	}
	var l []api.Entry
	receipts := r.Perm(20)
	for i, bidder := range r.Perm(r.Intn(9)) {
		e := bale(receipts[i], 1+r.Intn(3), r.Intn(2), r.Intn(2), r.Intn(2))
		e.Bidder = bidder
		e.Lot = 1 + r.Intn(8)/6
		if r.Intn(9) == 0 {
			e.Values = e.Values[:2]
		}
		l = append(l, e)
	}
	return x, l
}

// P5.2, P5.3: random tenders and entries.
func TestRankRandom(t *testing.T) {
	r := rand.New(rand.NewSource(2))
	seen := map[api.Errno]int{}
	for range 20000 {
		x, l := randomRanking(t, r)
		want := rankByDefinition(x, 1, l)
		for _, k := range want {
			seen[k.Out]++
		}
		checkRank(t, "random entries", x, 1, l, want...)
		if t.Failed() {
			t.Fatalf("tender %v, entries %v", x, l)
		}
	}
	for _, err := range []api.Errno{api.OK, api.ErrValue, api.ErrExclude, api.ErrZero} {
		if seen[err] < 100 {
			t.Errorf("only %d ranks with error %d", seen[err], err)
		}
	}
}

func ranksByBidder(t *testing.T, x api.Tender, l []api.Entry) (map[int]api.Rank, []api.Rank) {
	t.Helper()
	ranks, err := score.Rank(x, 1, l)
	if err != api.OK {
		t.Fatalf("Rank: error %d", err)
	}
	byBidder := map[int]api.Rank{}
	for _, k := range ranks {
		byBidder[k.Bidder] = k
	}
	return byBidder, ranks
}

// P5.4: the order of the entries, and entries of other lots, play no part.
func TestRankDoesNotDependOnOrder(t *testing.T) {
	r := rand.New(rand.NewSource(3))
	for range 3000 {
		x, l := randomRanking(t, r)
		before, list := ranksByBidder(t, x, l)
		shuffled := slices.Clone(l)
		r.Shuffle(len(l), func(i, j int) { shuffled[i], shuffled[j] = shuffled[j], shuffled[i] })
		if after, _ := ranksByBidder(t, x, shuffled); !reflect.DeepEqual(before, after) {
			t.Fatalf("in another order %v, before %v", after, before)
		}
		if _, after := ranksByBidder(t, x, slices.DeleteFunc(slices.Clone(l), func(e api.Entry) bool { return e.Lot != 1 })); !slices.Equal(list, after) {
			t.Fatalf("without other lots %v, before %v", after, list)
		}
	}
}

// P5.4: what removing an entry changes.
func TestRankAfterRemovingAnEntry(t *testing.T) {
	r := rand.New(rand.NewSource(4))
	for range 5000 {
		x, l := randomRanking(t, r)
		l = slices.DeleteFunc(l, func(e api.Entry) bool { return e.Lot != 1 })
		if len(l) == 0 {
			continue
		}
		i := r.Intn(len(l))
		removed := l[i]
		before, _ := ranksByBidder(t, x, l)
		after, _ := ranksByBidder(t, x, slices.Delete(slices.Clone(l), i, i+1))
		isLow := !slices.ContainsFunc(l, func(e api.Entry) bool { return e.Price < removed.Price && eval.Admit(x, e) == api.OK })
		admitted := eval.Admit(x, removed) == api.OK
		for bidder, k := range after {
			old := before[bidder]
			if !admitted && k != old {
				t.Fatalf("without %v, which is not admitted, %v, before %v", removed, k, old)
			}
			if admitted && !isLow && (ratio.Cmp(k.Points, old.Points) != 0 || k.Out != old.Out) {
				t.Fatalf("without %v, which has not the low price, %v, before %v", removed, k, old)
			}
		}
	}
}

// P5.4: of two entries that count, exactly one is better; none is better than itself.
func TestRankIsAnOrder(t *testing.T) {
	r := rand.New(rand.NewSource(5))
	for range 3000 {
		x, l := randomRanking(t, r)
		byBidder, _ := ranksByBidder(t, x, l)
		for _, a := range l {
			for _, b := range l {
				p, q := byBidder[a.Bidder], byBidder[b.Bidder]
				if a.Lot != 1 || b.Lot != 1 || p.Out != api.OK || q.Out != api.OK {
					continue
				}
				if score.Better(x, a, b, p.Points, q.Points) != (p.Place < q.Place) {
					t.Fatalf("Better of %v and %v with the places %d and %d", a, b, p.Place, q.Place)
				}
			}
		}
	}
}

// R3, R4: the arguments stay as they are, and a call depends on nothing but its arguments.
func TestRankKeepsArguments(t *testing.T) {
	x, l := chairs(t), append(threeChairs(), chair(1, 300, 1, 0))
	first, _ := score.Rank(x, 1, l)
	if !reflect.DeepEqual(x, chairs(t)) || !reflect.DeepEqual(l, append(threeChairs(), chair(1, 300, 1, 0))) {
		t.Error("Rank has changed its arguments")
	}
	kept := slices.Clone(first)
	second, _ := score.Rank(x, 1, l)
	clear(second)
	if third, _ := score.Rank(x, 1, l); !slices.Equal(first, kept) || !slices.Equal(third, kept) {
		t.Error("Rank has not the same result again")
	}
}
