package amend_test

import (
	"math"
	"reflect"
	"slices"
	"strings"
	"testing"

	"probity/amend"
	"probity/api"
	"probity/prove"
	"probity/text"
)

func amendment(time int, s string) api.Amendment { return api.Amendment{Time: time, Text: s} }

// same returns so many amendments at a time before all deadlines that change nothing.
func same(count int) []api.Amendment {
	return slices.Repeat([]api.Amendment{amendment(5, chairsText)}, count)
}

// checkAll checks the times of all versions.
func checkAll(t *testing.T, why string, first string, l []api.Amendment, want ...api.Times) []api.Tender {
	t.Helper()
	versions, at, err := amend.All(first, l, enough)
	if at != 0 || err != api.OK || len(versions) != len(want) {
		t.Fatalf("All, %s: %d versions, %d, error %d, want %d versions", why, len(versions), at, err, len(want))
	}
	for k, x := range versions {
		if x.Times != want[k] {
			t.Errorf("All, %s: version %d has the times %v, want %v", why, k, x.Times, want[k])
		}
		s := first
		if k > 0 {
			s = l[k-1].Text
		}
		x.Times = parsed(t, s).Times
		if !text.Equal(x, parsed(t, s)) {
			t.Errorf("All, %s: version %d is %+v, want that of %q", why, k, x, s)
		}
	}
	return versions
}

func checkAllError(t *testing.T, why, first string, l []api.Amendment, work, wantAt int, want api.Errno) {
	t.Helper()
	versions, at, err := amend.All(first, l, work)
	if len(versions) != 0 || at != wantAt || err != want {
		t.Errorf("All, %s: %d versions, %d, error %d, want %d, error %d", why, len(versions), at, err, wantAt, want)
	}
}

// P8.3: the first version is the compiled text, as it is.
func TestAllWithoutAmendments(t *testing.T) {
	for _, l := range [][]api.Amendment{nil, {}} {
		checkAll(t, "no amendments", chairsText, l, timesOf(10, 20, 30, 40, 5))
		checkAll(t, "greatest times", replaced("times 0 1000000000 1000000000 1000000000 1000000000"), l, timesOf(0, 1000000000, 1000000000, 1000000000, 1000000000))
	}
}

// P8.3: each version is that of Apply for the one before, whose deadlines may have been moved already.
func TestAll(t *testing.T) {
	checkAll(t, "one amendment", chairsText, []api.Amendment{amendment(5, replaced("price 1 499", "tender Tables"))},
		timesOf(10, 20, 30, 40, 5), timesOf(10, 10100, 10110, 10120, 5))
	checkAll(t, "several amendments", chairsText, []api.Amendment{
		amendment(-7, replaced("budget 901", "times 10 25 4351 4352 5")),
		amendment(4339, replaced("budget 901", "times 11 4340 5000 5001 6")),
		amendment(4339, replaced("require speed <= 3", "times 11 4340 5000 5001 6")),
		amendment(14419, replaced("require speed <= 3", "times 14420 14420 20000 20000 6", "tie price speed comfort")),
	},
		timesOf(10, 20, 30, 40, 5), timesOf(10, 4340, 4351, 4360, 5), timesOf(11, 4340, 5000, 5001, 6),
		timesOf(11, 14420, 15080, 15081, 6), timesOf(14420, 18740, 20000, 20000, 6))
	checkAll(t, "twice to and fro", chairsText, []api.Amendment{
		amendment(math.MinInt, replaced("most 1")), amendment(math.MinInt, replaced("times 10 4340 4350 4360 5")),
	},
		timesOf(10, 20, 30, 40, 5), timesOf(10, 4340, 4350, 4360, 5), timesOf(10, 8660, 8670, 8680, 5))
}

// P8.3: the greatest number of amendments.
func TestAllManyAmendments(t *testing.T) {
	want := slices.Repeat([]api.Times{timesOf(10, 20, 30, 40, 5)}, 21)
	checkAll(t, "20 amendments", chairsText, same(20), want...)
	for _, count := range []int{21, 22, 100} {
		checkAllError(t, "too many amendments", chairsText, same(count), enough, 20, api.ErrMany)
	}
}

// faultOfText is a text that is not compiled.
type faultOfText struct {
	s    string
	work int
	err  api.Errno
}

func faultsOfText() []faultOfText {
	return []faultOfText{
		{"", enough, api.ErrToken},
		{"nothing", enough, api.ErrToken},
		{chairsText + "lot 0 most 5", enough, api.ErrRange},
		{chairsText + "budget 900", enough, api.ErrName},
		{chairsText + strings.Repeat(" ", 4000), enough, api.ErrMany},
		{replaced("price 5 4"), enough, api.ErrValue},
		{replaced("formula price + comfort"), enough, api.ErrUnit},
		{replaced("formula 1 / comfort"), enough, api.ErrZero},
		{replaced("combo 1 3"), enough, api.ErrNone},
		{replaced("times 10 20 30 29 5"), enough, api.ErrValue},
		{replaced("formula price / 500"), enough, api.ErrProof},
		{replaced("tie price comfort", "formula comfort"), enough, api.ErrProof},
		{replaced("formula comfort * comfort - comfort"), 1, api.ErrGap},
	}
}

// P8.3: the error of the first text, whatever the amendments are.
func TestAllErrorsOfTheFirstText(t *testing.T) {
	for _, f := range faultsOfText() {
		if _, _, err := prove.Compile(f.s, f.work); err != f.err {
			t.Errorf("Compile of %q: error %d, want %d", f.s, err, f.err)
		}
		for _, l := range [][]api.Amendment{nil, same(1), same(21), {amendment(5, ""), amendment(4, "")}} {
			checkAllError(t, f.s, f.s, l, f.work, -1, f.err)
		}
	}
	for _, work := range []int{0, -1, math.MinInt} {
		checkAllError(t, "without work", chairsText, same(1), work, -1, api.ErrGap)
	}
}

// P8.3: the error of the text of an amendment, with the number of the amendment instead of an offset.
func TestAllErrorsOfTexts(t *testing.T) {
	for _, f := range faultsOfText() {
		for k := range 3 {
			l := same(3)
			l[k].Text = f.s
			checkAllError(t, f.s, chairsText, l, f.work, k, f.err)
		}
	}
}

// P8.3: times of amendments must not decrease, but may be the same.
func TestAllOldAmendments(t *testing.T) {
	checkAll(t, "the same time", chairsText, same(2), slices.Repeat([]api.Times{timesOf(10, 20, 30, 40, 5)}, 3)...)
	for k := range 3 {
		l := same(4)
		l[k+1].Time = 4
		checkAllError(t, "an older amendment", chairsText, l, enough, k+1, api.ErrOld)
	}
	checkAllError(t, "the least after the greatest time", chairsText, []api.Amendment{amendment(19, chairsText), amendment(math.MinInt, chairsText)}, enough, 1, api.ErrOld)
	checkAllError(t, "old, but not older than the first", chairsText, []api.Amendment{amendment(3, chairsText), amendment(9, chairsText), amendment(5, chairsText)}, enough, 2, api.ErrOld)
}

// P8.3: the errors of Apply are found for the version before, not for its text.
func TestAllErrorsOfApply(t *testing.T) {
	other, moved := replaced("price 1 499"), "times 10 10100 10110 10120 5"
	for _, c := range []struct {
		why string
		l   []api.Amendment
		at  int
		err api.Errno
	}{
		{"at the deadline", []api.Amendment{amendment(20, chairsText)}, 0, api.ErrLate},
		{"after the deadline", []api.Amendment{amendment(math.MaxInt, chairsText)}, 0, api.ErrLate},
		{"an earlier time", []api.Amendment{amendment(5, replaced("times 10 19 30 40 5"))}, 0, api.ErrArg},
		{"an earlier standstill", []api.Amendment{amendment(5, replaced("times 10 20 30 40 4"))}, 0, api.ErrArg},
		{"the deadline of the first version after it was moved", []api.Amendment{amendment(5, other), amendment(20, other)}, 1, api.ErrArg},
		{"the moved deadline", []api.Amendment{amendment(5, other), amendment(10100, replaced(moved))}, 1, api.ErrLate},
		{"earlier than the moved time", []api.Amendment{amendment(5, other), amendment(5, replaced("times 10 10100 10109 10120 5"))}, 1, api.ErrArg},
		{"late for the second one", []api.Amendment{amendment(19, chairsText), amendment(20, chairsText)}, 1, api.ErrLate},
		{"late for the third one", []api.Amendment{amendment(5, other), amendment(10099, replaced(moved, "price 1 499")), amendment(10100, chairsText)}, 2, api.ErrLate},
	} {
		checkAllError(t, c.why, chairsText, c.l, enough, c.at, c.err)
	}
	checkAll(t, "in time for the moved deadline", chairsText, []api.Amendment{amendment(5, other), amendment(10099, replaced("price 1 499", moved))},
		timesOf(10, 20, 30, 40, 5), timesOf(10, 10100, 10110, 10120, 5), timesOf(10, 10100, 10110, 10120, 5))
}

// P8.3: of several errors of an amendment the first one, and of several amendments the first one.
func TestAllErrorsInOrder(t *testing.T) {
	old, broken, late, earlier := amendment(4, chairsText), amendment(5, "x"), amendment(20, chairsText), amendment(5, replaced("times 9 20 30 40 5"))
	faults := map[api.Errno]api.Amendment{api.ErrOld: old, api.ErrToken: broken, api.ErrLate: late, api.ErrArg: earlier}
	for err, fault := range faults {
		checkAllError(t, "the 21st", chairsText, append(same(20), fault), enough, 20, api.ErrMany)
		checkAllError(t, "the 20th", chairsText, append(same(19), fault, fault), enough, 19, err)
		for _, later := range faults {
			checkAllError(t, "one after another one", chairsText, append(same(2), fault, later), enough, 2, err)
		}
	}
	checkAllError(t, "old and broken", chairsText, append(same(1), amendment(4, "x")), enough, 1, api.ErrOld)
	checkAllError(t, "old and earlier", chairsText, append(same(1), amendment(4, earlier.Text)), enough, 1, api.ErrOld)
	checkAllError(t, "old and late", chairsText, []api.Amendment{amendment(5, replaced("price 1 499")), amendment(4, chairsText)}, enough, 1, api.ErrOld)
	checkAllError(t, "broken and late", chairsText, append(same(1), amendment(20, "x")), enough, 1, api.ErrToken)
	checkAllError(t, "late and earlier", chairsText, append(same(1), amendment(20, earlier.Text)), enough, 1, api.ErrLate)
}

// R3: the argument stays as it is, and versions share no memory; R4: the same call has the same result.
func TestAllOwnership(t *testing.T) {
	l := same(2)
	versions := checkAll(t, "once", chairsText, l, slices.Repeat([]api.Times{timesOf(10, 20, 30, 40, 5)}, 3)...)
	for k := range versions {
		versions[k].Lots[0].Most, versions[k].Criteria[0].High, versions[k].Requires[0].Value, versions[k].Combos[0][0] = k, k, k, k
		versions[k].Ties[0], versions[k].Formula.Args[0].Op = "changed", "changed"
		for _, x := range versions[k+1:] {
			if !text.Equal(x, chairs(t)) {
				t.Fatalf("version %d shares memory with a later one: %+v", k, x)
			}
		}
	}
	if !reflect.DeepEqual(l, same(2)) {
		t.Errorf("the amendments have changed: %v", l)
	}
	checkAll(t, "once more", chairsText, l, slices.Repeat([]api.Times{timesOf(10, 20, 30, 40, 5)}, 3)...)
}
