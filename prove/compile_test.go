package prove_test

import (
	"math"
	"math/rand"
	"reflect"
	"strings"
	"testing"

	"probity/api"
	"probity/prove"
	"probity/score"
	"probity/text"
	"probity/types"
)

// source is a text that is compiled, in which a test replaces lines.
const source = "tender t\nlot 1 most 3\ncriterion c grade 0 2\nprice 1 3\nformula (3 - price) / 3 + c\ntie price c\nbudget 9\ntimes 1 2 3 4 5\n"

func checkCompile(t *testing.T, s string, work, wantAt int, want api.Errno) {
	t.Helper()
	x, at, err := prove.Compile(s, work)
	if at != wantAt || err != want {
		t.Errorf("Compile of %q with work %d: %d, error %d, want %d, error %d", s, work, at, err, wantAt, want)
	}
	parsed, _, _ := text.Parse(s)
	if want != api.OK {
		parsed = api.Tender{}
	}
	if !reflect.DeepEqual(x, parsed) {
		t.Errorf("Compile of %q with work %d: %v", s, work, x)
	}
}

func withFormula(formula string) string {
	return strings.Replace(source, "(3 - price) / 3 + c", formula, 1)
}

// P6.4: tenders that are compiled.
func TestCompile(t *testing.T) {
	for _, work := range []int{1, 9, enough, math.MaxInt} {
		checkCompile(t, source, work, 0, api.OK)
		checkCompile(t, withFormula("low / 3 * 0 + 7"), enough, 0, api.OK)
		checkCompile(t, "\n"+strings.ReplaceAll(source, " ", "  "), work, 0, api.OK)
	}
	for _, formula := range []string{"c", "low / price", "low / price * (c + 1)", "c * c - c", "low / 3", "(c + 1) / (price * 2) * low"} {
		checkCompile(t, withFormula(formula), enough, 0, api.OK)
	}
}

// P6.4: the errors, each alone.
func TestCompileErrors(t *testing.T) {
	checkCompile(t, "", enough, 0, api.ErrToken)
	checkCompile(t, "tender t\nlot 0 most 3", enough, 13, api.ErrRange)
	checkCompile(t, withFormula("c +"), enough, strings.Index(source, "(3")+3, api.ErrToken)
	checkCompile(t, source+"price 1 3", enough, len(source), api.ErrName)
	checkCompile(t, strings.Repeat(" ", 4001), enough, 0, api.ErrMany)
	checkCompile(t, withFormula("price + c"), enough, 0, api.ErrUnit)
	checkCompile(t, withFormula("d"), enough, 0, api.ErrName)
	checkCompile(t, withFormula("1 / c"), enough, 0, api.ErrZero)
	checkCompile(t, withFormula("1000000000 * 1000000000 * 1000000000"), enough, 0, api.ErrRange)
	checkCompile(t, source+"combo 1 2\n", enough, 0, api.ErrNone)
	checkCompile(t, strings.Replace(source, "times 1", "times 3", 1), enough, 0, api.ErrValue)
	checkCompile(t, withFormula("price / 3 + c"), enough, 0, api.ErrProof)
	checkCompile(t, withFormula("low / price + c / 4"), enough, 0, api.ErrProof)
	checkCompile(t, strings.Replace(source, "tie price c", "tie c", 1), enough, 0, api.OK)
	checkCompile(t, strings.Replace(withFormula("c"), "tie price c", "tie c", 1), enough, 0, api.ErrProof)
	checkCompile(t, source, 0, 0, api.ErrGap)
	checkCompile(t, source, math.MinInt, 0, api.ErrGap)
}

// P6.4: text before types, types before claims, and claims in order: a gap of one is found before the opposite of a later one.
func TestCompileErrorsInOrder(t *testing.T) {
	checkCompile(t, withFormula("price + c")+"price 1 3", enough, len(withFormula("price + c")), api.ErrName)
	checkCompile(t, withFormula("price + c"), 0, 0, api.ErrUnit)
	checkCompile(t, withFormula("c +"), 0, strings.Index(source, "(3")+3, api.ErrToken)
	checkCompile(t, withFormula("price / 3"), 0, 0, api.ErrGap)
	const wide = "tender t\nlot 1 most 3\nprice 0 1000000000\ncriterion c grade 0 1000000000\nbudget 9\ntimes 1 2 3 4 5\nformula "
	checkCompile(t, wide+"(c - 5) * (c - 5) + c - c\n", 1, 0, api.ErrGap)
	checkCompile(t, wide+"price / 3\n", enough, 0, api.ErrProof)
	checkCompile(t, wide+"c - price / 3\ntie price c", 1, 0, api.OK)
}

// P6.4 is the example 1 of the document: a further bid can reverse an order.
func TestCompileOfQualityAndLeastPrice(t *testing.T) {
	const s = "tender t\nlot 1 most 20\ncriterion quality grade 0 10\nprice 1 20\nbudget 20\ntimes 1 2 3 4 5\ntie price quality\nformula 60 * low / price + quality"
	checkCompile(t, s, enough, 0, api.ErrProof)
	checkCompile(t, s, api.MaxSearch, 0, api.ErrProof)
}

// P6.4: Compile says what the other functions say, for random tenders.
func TestCompileOfRandomTenders(t *testing.T) {
	r := rand.New(rand.NewSource(64))
	found := map[api.Errno]int{}
	for range 500 {
		x := randomTender(r)
		for _, work := range []int{0, 1, 500, enough} {
			want := api.OK
			for _, c := range claims() {
				if want == api.OK {
					want = map[int]api.Errno{api.Proved: api.OK, api.Counter: api.ErrProof, api.Gap: api.ErrGap}[c.decide(x, work).Kind]
				}
			}
			found[want]++
			checkCompile(t, text.Print(x), work, 0, want)
		}
	}
	if len(found) != 3 {
		t.Errorf("errors %v", found)
	}
}

// randomBids returns bids for a lot, with different bidders and receipts.
func randomBids(r *rand.Rand, x api.Tender) []api.Entry {
	var bids []api.Entry
	receipts := r.Perm(8)
	for i := range 2 + r.Intn(5) {
		bid := randomEntry(r, x)
		bid.Bidder, bid.Lot, bid.Receipt = 10+i, 1, receipts[i]
		bids = append(bids, bid)
	}
	return bids
}

// places returns the places of bidders whose bids count.
func places(t *testing.T, x api.Tender, bids []api.Entry) map[int]int {
	t.Helper()
	ranks, err := score.Rank(x, 1, bids)
	if err != api.OK {
		t.Fatalf("Rank of %v: error %d", bids, err)
	}
	places := map[int]int{}
	for _, rank := range ranks {
		if rank.Place > 0 {
			places[rank.Bidder] = rank.Place
		}
	}
	return places
}

func without(bids []api.Entry, i int) []api.Entry {
	return append(append([]api.Entry{}, bids[:i]...), bids[i+1:]...)
}

// compiled returns random tenders that are compiled, and some with fair rules about the least price.
func compiled(r *rand.Rand) []api.Tender {
	var all []api.Tender
	for _, formula := range []string{
		"low / price * (c + 1) * (3 - d)", "low / price", "low / 2 * (c + 1) / (d + 1)",
		"(" + partial("c", "249999999.75") + " + " + partial("d", "499999999.75") + ") * 0 + c - d",
		"min(c, 1) * low / price", "c - d", "1",
	} {
		x, _, err := prove.Compile(lines+"price 1 3\ncriterion c grade 0 2\ncriterion d offer 0 2 less\ntie d price c\nformula "+formula, enough)
		if err == api.OK {
			all = append(all, x)
		}
	}
	for len(all) < 150 {
		if x, _, err := prove.Compile(text.Print(randomTender(r)), enough); err == api.OK {
			all = append(all, x)
		}
	}
	return all
}

// P6.5: removing a bid changes the order of no two others that count before and after.
func TestRemovedBids(t *testing.T) {
	r := rand.New(rand.NewSource(651))
	compared := 0
	for _, x := range compiled(r) {
		for range 40 {
			bids := randomBids(r, x)
			before := places(t, x, bids)
			for i := range bids {
				after := places(t, x, without(bids, i))
				for a := range after {
					for b := range after {
						compared++
						if before[a] > 0 && before[b] > 0 && (before[a] < before[b]) != (after[a] < after[b]) {
							t.Fatalf("%s: the order of %d and %d in %v changes without %d", text.Print(x), a, b, bids, bids[i].Bidder)
						}
					}
				}
			}
		}
	}
	if compared < 10000 {
		t.Errorf("only %d comparisons", compared)
	}
}

// P6.5: a better number never leads to a worse place, if the least price stays the same, and the bid counts with both.
func TestBetterBids(t *testing.T) {
	r := rand.New(rand.NewSource(652))
	improved := 0
	for _, x := range compiled(r) {
		for range 100 {
			bids := randomBids(r, x)
			better, name := withOtherNumber(r, x, bids[0])
			better.Bidder, better.Lot, better.Receipt = bids[0].Bidder, bids[0].Lot, bids[0].Receipt
			changed := append([]api.Entry{better}, bids[1:]...)
			if !isBetter(x, name, better, bids[0]) || cheapest(changed) != cheapest(bids) {
				continue
			}
			before, after := places(t, x, bids)[10], places(t, x, changed)[10]
			if before > 0 && after > 0 {
				improved++
				if after > before {
					t.Fatalf("%s: the place %d of %v becomes %d with a better %s: %v", text.Print(x), before, bids, after, name, better)
				}
			}
		}
	}
	if improved < 500 {
		t.Errorf("only %d better bids", improved)
	}
}

func cheapest(bids []api.Entry) int {
	least := bids[0].Price
	for _, bid := range bids {
		least = min(least, bid.Price)
	}
	return least
}

// P6.5: receipts decide only between bids that are equal in all names.
func TestReceiptsDecideEqualBids(t *testing.T) {
	r := rand.New(rand.NewSource(653))
	for _, x := range compiled(r) {
		for range 40 {
			bids := randomBids(r, x)
			before := places(t, x, bids)
			changed := append([]api.Entry{}, bids...)
			for i := range changed {
				changed[i].Receipt = -bids[i].Receipt
			}
			after := places(t, x, changed)
			for i, a := range bids {
				for _, b := range bids[:i] {
					counts := before[a.Bidder] > 0 && before[b.Bidder] > 0
					if reversed := (before[a.Bidder] < before[b.Bidder]) != (after[a.Bidder] < after[b.Bidder]); counts && reversed != (len(differences(x, a, b)) == 0) {
						t.Fatalf("%s: the order of %v and %v is reversed with their receipts: %v", text.Print(x), a, b, reversed)
					}
				}
			}
		}
	}
}

// R3, R4: results are new memory and the same again; P1: no text is a problem.
func TestCompileArguments(t *testing.T) {
	x, _, _ := prove.Compile(source, enough)
	x.Criteria[0].Name, x.Ties[0] = "changed", "changed"
	checkCompile(t, source, enough, 0, api.OK)
	for _, s := range []string{strings.Repeat("(", 4000), strings.Repeat("\n", 4000), "\x00", "tender", withFormula(strings.Repeat("(", 1000)), strings.Repeat("x", 1<<20)} {
		if _, _, err := prove.Compile(s, enough); err == api.OK {
			t.Errorf("Compile of %.20q: no error", s)
		}
	}
	if _, err := types.Check(x); err == api.OK {
		t.Errorf("the changed tender is sound")
	}
}
