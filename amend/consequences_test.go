package amend_test

import (
	"math"
	"math/rand"
	"strconv"
	"strings"
	"testing"

	"probity/amend"
	"probity/api"
	"probity/text"
)

// deadlines returns all times of a tender.
func deadlines(x api.Tender) [5]int {
	return [5]int{x.Times.Questions, x.Times.Bids, x.Times.Grades, x.Times.Prices, x.Times.Still}
}

// isNoEarlier reports whether all times are at least those before.
func isNoEarlier(next, before api.Tender) bool {
	for i, time := range deadlines(next) {
		if time < deadlines(before)[i] {
			return false
		}
	}
	return true
}

// P8.5: amending a tender by itself changes nothing; another name moves no deadline.
func TestAmendedByItself(t *testing.T) {
	r := rand.New(rand.NewSource(851))
	for range 3000 {
		x := randomTender(r)
		x.Times = timesOf(randomTime(r), randomTime(r), randomTime(r), randomTime(r), randomTime(r))
		checkApply(t, "by itself", x, x, x.Times.Bids-1, x.Times)
		other := x
		other.Name += "y"
		checkApply(t, "another name", x, other, x.Times.Bids-1, x.Times)
		checkApply(t, "another name, the other way", other, x, x.Times.Bids-1, x.Times)
		if moves := amend.Moves(x, other); len(moves) != 0 {
			t.Fatalf("Moves after another name: %q", moves)
		}
	}
}

// isOfferChanged reports whether something is changed that bidders must offer.
func isOfferChanged(old, next api.Tender) bool {
	for _, clause := range amend.Moves(old, next) {
		switch strings.Fields(clause)[0] {
		case "lot", "criterion", "require", "range":
			return true
		}
	}
	return false
}

// P8.5: no time becomes earlier; if something changes that bidders must offer, they have 7 more days, or until 1000000000.
func TestDeadlinesOfRandomTenders(t *testing.T) {
	r := rand.New(rand.NewSource(852))
	offers, others := 0, 0
	for range 20000 {
		old, next := randomTender(r), randomTender(r)
		if r.Intn(3) == 0 {
			next = old
			next.Budget, next.Most, next.Formula.Name = r.Intn(2), r.Intn(2), pick(r, "", "a")
		}
		old.Times = timesOf(randomTime(r), randomTime(r), randomTime(r), randomTime(r), randomTime(r))
		next.Times = timesOf(randomTime(r), randomTime(r), randomTime(r), randomTime(r), randomTime(r))
		if r.Intn(2) == 0 {
			next.Times = old.Times
		}
		got, err := amend.Apply(old, next, math.MinInt)
		if err != api.OK {
			continue
		}
		if !isNoEarlier(got, old) || !isNoEarlier(got, next) {
			t.Fatalf("the times %v become %v for %v", old.Times, got.Times, next.Times)
		}
		if !isOfferChanged(old, next) {
			others++
			continue
		}
		offers++
		if bids := got.Times.Bids; bids < api.MaxNumber && bids-7*24*60 < old.Times.Bids {
			t.Fatalf("the deadline %d becomes %d, though offers have changed", old.Times.Bids, bids)
		}
	}
	if offers < 1000 || others < 1000 {
		t.Errorf("only %d changes of offers, and %d others", offers, others)
	}
}

// randomAmendments returns amendments of the tender above that have no error.
func randomAmendments(t *testing.T, r *rand.Rand) []api.Amendment {
	t.Helper()
	var l []api.Amendment
	before := chairs(t)
	for time := -5; time < before.Times.Bids && len(l) < 8; time += r.Intn(5000) {
		times := "times"
		for _, deadline := range deadlines(before) {
			times += " " + strconv.Itoa(deadline)
		}
		s := replaced(times, pick(r, "tender Tables", "tender Beds"), pick(r, "budget 900", "budget 901"), pick(r, "price 1 500", "price 1 499"), pick(r, "most 1", "most 2"))
		next, err := amend.Apply(before, parsed(t, s), time)
		if err != api.OK {
			t.Fatalf("Apply at %d of %q: error %d", time, s, err)
		}
		before = next
		l = append(l, amendment(time, s))
	}
	return l
}

// P8.5: what is in force at a time does not depend on later amendments; from the last amendment on it is the last version.
func TestVersionsInForce(t *testing.T) {
	r := rand.New(rand.NewSource(853))
	compared := 0
	for range 30 {
		l := randomAmendments(t, r)
		versions, _, err := amend.All(chairsText, l, enough)
		if err != api.OK {
			t.Fatalf("All of %v: error %d", l, err)
		}
		for k := range l {
			if !isNoEarlier(versions[k+1], versions[k]) {
				t.Fatalf("the times %v become %v", versions[k].Times, versions[k+1].Times)
			}
			earlier, _, err := amend.All(chairsText, l[:k], enough)
			if err != api.OK {
				t.Fatalf("All of %v: error %d", l[:k], err)
			}
			for _, time := range []int{math.MinInt, -6, -5, 0, l[k].Time - 1} {
				before, known := amend.At(earlier, l[:k], time)
				after, stillKnown := amend.At(versions, l, time)
				if time < l[k].Time && !(known && stillKnown && text.Equal(before, after)) {
					t.Fatalf("in force at %d is %+v, and with later amendments %+v", time, before, after)
				}
				compared++
			}
		}
		last := versions[len(versions)-1]
		for _, time := range []int{l[len(l)-1].Time, l[len(l)-1].Time + 1, math.MaxInt} {
			if got, ok := amend.At(versions, l, time); !ok || !text.Equal(got, last) {
				t.Fatalf("in force at %d is %+v, want %+v", time, got, last)
			}
		}
	}
	if compared < 500 {
		t.Errorf("only %d comparisons", compared)
	}
}
