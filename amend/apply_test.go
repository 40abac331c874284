package amend_test

import (
	"math"
	"math/big"
	"math/rand"
	"reflect"
	"strings"
	"testing"

	"probity/amend"
	"probity/api"
	"probity/depend"
)

// P8.2: each change moves the three deadlines by its distance, and nothing else.
func TestApplyMovesDeadlines(t *testing.T) {
	for _, e := range edits() {
		next := edited(t, e)
		want := next.Times
		want.Bids, want.Grades, want.Prices = 20+e.distance, 30+e.distance, 40+e.distance
		checkApply(t, e.why, chairs(t), next, 5, want)
	}
}

// P8.2: the examples of the chapter.
func TestApplyExamples(t *testing.T) {
	old := chairs(t)
	next := parsed(t, strings.Replace(chairsText, "grade 0 10", "grade 0 20", 1))
	checkApply(t, "comfort up to 20", old, next, 5, timesOf(10, 10100, 10110, 10120, 5))
	checkApply(t, "another name", old, parsed(t, replaced("tender Tables")), 5, timesOf(10, 20, 30, 40, 5))
	checkApplyError(t, "at 20", old, next, 20, api.ErrLate)
	checkApplyError(t, "Bids 15", old, parsed(t, replaced("times 10 15 30 40 5")), 5, api.ErrArg)
}

// P8.2: times of the new tender that are greater stay, each one by itself.
func TestApplyKeepsGreaterTimes(t *testing.T) {
	for _, c := range []struct {
		next string
		want api.Times
	}{
		{"budget 901\ntimes 10 4339 4350 4360 5", timesOf(10, 4340, 4350, 4360, 5)},
		{"budget 901\ntimes 10 4340 4340 4340 5", timesOf(10, 4340, 4350, 4360, 5)},
		{"budget 901\ntimes 10 4341 4351 4361 5", timesOf(10, 4341, 4351, 4361, 5)},
		{"budget 901\ntimes 10 9000 9000 9000 5", timesOf(10, 9000, 9000, 9000, 5)},
		{"budget 901\ntimes 10 20 9000 9000 5", timesOf(10, 4340, 9000, 9000, 5)},
		{"budget 901\ntimes 10 20 30 9000 5", timesOf(10, 4340, 4350, 9000, 5)},
		{"budget 901\ntimes 10 9000 30 40 5", timesOf(10, 9000, 4350, 4360, 5)},
		{"budget 901\ntimes 19 20 30 40 6", timesOf(19, 4340, 4350, 4360, 6)},
		{"budget 901\ntimes 5000 20 30 40 5000", timesOf(5000, 4340, 4350, 4360, 5000)},
		{"times 11 21 31 41 6", timesOf(11, 21, 31, 41, 6)},
		{"price 1 499\ntimes 10 10100 10111 1000000000 5", timesOf(10, 10100, 10111, 1000000000, 5)},
	} {
		lines := strings.Split(c.next, "\n")
		checkApply(t, c.next, chairs(t), parsed(t, replaced(lines...)), 5, c.want)
	}
}

// P8.2: the number 1000000000, and the ends of what an int can be.
func TestApplyAtLimits(t *testing.T) {
	const most = 1000000000
	for _, c := range []struct{ old, own, budget, high int }{
		{most - 10081, most - 10081, most - 5761, most - 1},
		{most - 10080, most - 10080, most - 5760, most},
		{most - 10079, most - 10079, most - 5759, most},
		{most - 4321, most - 4321, most - 1, most},
		{most - 4320, most - 4320, most, most},
		{most - 4319, most - 4319, most, most},
		{most - 1, most - 1, most, most},
		{most - 1, most, most, most},
		{most, most, most, most},
		{5, most + 1, most + 1, most + 1},
		{most + 1, most + 1, most + 1, most + 1},
		{most + 1, most + 2, most + 2, most + 2},
		{math.MaxInt, math.MaxInt, math.MaxInt, math.MaxInt},
		{math.MaxInt - 1, math.MaxInt, math.MaxInt, math.MaxInt},
		{math.MaxInt - 4319, math.MaxInt - 4319, math.MaxInt - 4319, math.MaxInt - 4319},
		{math.MinInt + 1, math.MinInt + 1, math.MinInt + 4321, math.MinInt + 10081},
		{math.MinInt + 1, math.MaxInt, math.MaxInt, math.MaxInt},
		{-10080, -10080, -5760, 0},
		{-10080, -1, -1, 0},
		{-10080, 1, 1, 1},
	} {
		old, next := timed(c.old), timed(c.own)
		checkApply(t, "nothing at limits", old, next, math.MinInt, next.Times)
		next.Budget++
		checkApply(t, "the budget at limits", old, next, c.old-1, timed(c.budget).Times)
		next.High++
		checkApply(t, "the range at limits", old, next, c.old-1, timed(c.high).Times)
	}
}

// P8.2: the deadline itself is too late, and so is everything after it.
func TestApplyTooLate(t *testing.T) {
	for _, next := range []api.Tender{chairs(t), parsed(t, replaced("budget 7")), parsed(t, replaced("times 10 9000 9000 9000 5")), {}} {
		for _, time := range []int{20, 21, 30, 40, 9000, math.MaxInt} {
			checkApplyError(t, "too late", chairs(t), next, time, api.ErrLate)
		}
	}
	for _, time := range []int{19, 10, 0, -1, math.MinInt} {
		checkApply(t, "in time", chairs(t), chairs(t), time, chairs(t).Times)
	}
	checkApplyError(t, "the zero tenders at 0", api.Tender{}, api.Tender{}, 0, api.ErrLate)
	checkApply(t, "the zero tenders before 0", api.Tender{}, api.Tender{}, -1, api.Times{})
	checkApplyError(t, "the greatest deadline", timed(math.MaxInt), timed(math.MaxInt), math.MaxInt, api.ErrLate)
	checkApplyError(t, "the least deadline", timed(math.MinInt), timed(math.MinInt), math.MinInt, api.ErrLate)
}

// P8.2: none of the five times may become earlier, even if it would be moved to a later one; ErrLate comes first.
func TestApplyEarlierTimes(t *testing.T) {
	for _, times := range []api.Times{
		timesOf(9, 20, 30, 40, 5), timesOf(10, 19, 30, 40, 5), timesOf(10, 20, 29, 40, 5), timesOf(10, 20, 30, 39, 5), timesOf(10, 20, 30, 40, 4),
		{}, timesOf(math.MinInt, 9000, 9000, 9000, 9000), timesOf(9000, 9000, 9000, 9000, math.MinInt), timesOf(9, 9000, 9000, 9000, 9000),
	} {
		for _, e := range edits() {
			next := edited(t, e)
			next.Times = times
			checkApplyError(t, e.why+", with an earlier time", chairs(t), next, math.MinInt, api.ErrArg)
			checkApplyError(t, e.why+", with an earlier time", chairs(t), next, 19, api.ErrArg)
			checkApplyError(t, e.why+", with an earlier time, too late", chairs(t), next, 20, api.ErrLate)
		}
	}
	checkApplyError(t, "the least time after the greatest one", timed(math.MaxInt), timed(math.MinInt), 5, api.ErrArg)
}

// distanceInWords is the distance of the chapter's words.
func distanceInWords(old, next api.Tender) int64 {
	var greatest int64
	for _, clause := range depend.Changed(old, next) {
		var minutes int64
		switch {
		case strings.HasPrefix(clause, "lot "), strings.HasPrefix(clause, "criterion "), strings.HasPrefix(clause, "require "), clause == "range":
			minutes = 7 * 24 * 60
		case clause == "formula", clause == "ties", clause == "most", clause == "combos", clause == "budget":
			minutes = 3 * 24 * 60
		}
		greatest = max(greatest, minutes)
	}
	return greatest
}

// laterInWords is max(own, min(old + distance, 1000000000)) for numbers of any size.
func laterInWords(own, old int, distance int64) int {
	sum := new(big.Int).Add(big.NewInt(int64(old)), big.NewInt(distance))
	if most := big.NewInt(1000000000); sum.Cmp(most) > 0 {
		sum = most
	}
	if x := big.NewInt(int64(own)); x.Cmp(sum) > 0 {
		sum = x
	}
	return int(sum.Int64())
}

// applyInWords returns the times, or the error, of the chapter's words.
func applyInWords(old, next api.Tender, time int) (api.Times, api.Errno) {
	if !(time < old.Times.Bids) {
		return api.Times{}, api.ErrLate
	}
	a, b := old.Times, next.Times
	for _, pair := range [][2]int{{a.Questions, b.Questions}, {a.Bids, b.Bids}, {a.Grades, b.Grades}, {a.Prices, b.Prices}, {a.Still, b.Still}} {
		if pair[1] < pair[0] {
			return api.Times{}, api.ErrArg
		}
	}
	d := distanceInWords(old, next)
	b.Bids, b.Grades, b.Prices = laterInWords(b.Bids, a.Bids, d), laterInWords(b.Grades, a.Grades, d), laterInWords(b.Prices, a.Prices, d)
	return b, api.OK
}

// randomTime returns a time for which there is something to be considered.
func randomTime(r *rand.Rand) int {
	near := pick(r, math.MinInt+12000, -10080, 0, 4320, 10080, 1000000000-10080, 1000000000-4320, 1000000000, math.MaxInt-12000, math.MaxInt-2)
	return near + r.Intn(3) + pick(r, 0, 0, 1, -1)*pick(r, 4320, 10080)
}

// P8.2: random tenders and times, in the chapter's words.
func TestApplyInWords(t *testing.T) {
	r := rand.New(rand.NewSource(82))
	seen := map[api.Errno]int{}
	for range 30000 {
		old, next := randomTender(r), randomTender(r)
		if r.Intn(2) == 0 {
			next.Times, old = api.Times{}, next
			next.Budget += r.Intn(2)
		}
		old.Times = timesOf(r.Intn(2), randomTime(r), randomTime(r), randomTime(r), r.Intn(2))
		next.Times = old.Times
		for _, own := range []*int{&next.Times.Bids, &next.Times.Grades, &next.Times.Prices} {
			*own = pick(r, *own, *own, max(*own, randomTime(r)), max(*own, randomTime(r)), max(*own, randomTime(r)), randomTime(r))
		}
		next.Times.Questions, next.Times.Still = next.Times.Questions+pick(r, 0, 1), next.Times.Still+pick(r, 0, 1)
		time := pick(r, math.MinInt, old.Times.Bids-1, old.Times.Bids-1, old.Times.Bids-1, old.Times.Bids, math.MaxInt)
		want, err := applyInWords(old, next, time)
		seen[err]++
		if err != api.OK {
			checkApplyError(t, "random", old, next, time, err)
			continue
		}
		checkApply(t, "random", old, next, time, want)
	}
	for _, err := range []api.Errno{api.OK, api.ErrLate, api.ErrArg} {
		if seen[err] < 3000 {
			t.Errorf("only %d results with error %d", seen[err], err)
		}
	}
}

// R3: the arguments stay as they are, and the result has memory of its own; R4: the same call has the same result.
func TestApplyOwnership(t *testing.T) {
	old, next := chairs(t), parsed(t, replaced("budget 7"))
	got, _ := amend.Apply(old, next, 5)
	if again, _ := amend.Apply(old, next, 5); !reflect.DeepEqual(got, again) {
		t.Errorf("Apply once more: %+v, want %+v", again, got)
	}
	got.Lots[0].Most, got.Criteria[0].High, got.Requires[0].Value, got.Ties[0], got.Combos[0][0] = 8, 8, 8, "changed", 8
	got.Formula.Args[0].Args[0].Op = "changed"
	if !reflect.DeepEqual(old, chairs(t)) || !reflect.DeepEqual(next, parsed(t, replaced("budget 7"))) {
		t.Errorf("the arguments have changed: %+v, %+v", old, next)
	}
}

// P1: formulas that cannot be written out.
func TestApplyOfVastFormulas(t *testing.T) {
	for why, next := range vast() {
		next.Times = chairs(t).Times
		checkApply(t, why, chairs(t), next, 5, timesOf(10, 10100, 10110, 10120, 5))
		checkApply(t, why+", amended by itself", next, next, 5, next.Times)
	}
}
