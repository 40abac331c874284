package amend_test

import (
	"math"
	"math/rand"
	"reflect"
	"testing"

	"probity/amend"
	"probity/api"
	"probity/text"
)

// numbered returns so many versions, whose Most are their numbers.
func numbered(count int) []api.Tender {
	versions := make([]api.Tender, count)
	for k := range versions {
		versions[k].Most = k
	}
	return versions
}

// at returns amendments with these times.
func at(times ...int) []api.Amendment {
	var l []api.Amendment
	for _, time := range times {
		l = append(l, amendment(time, "no tender"))
	}
	return l
}

func checkAt(t *testing.T, l []api.Amendment, time, want int) {
	t.Helper()
	if got, ok := amend.At(numbered(len(l)+1), l, time); !ok || !reflect.DeepEqual(got, api.Tender{Most: want}) {
		t.Errorf("At %d of amendments %v: version %d, %v, want %d", time, l, got.Most, ok, want)
	}
}

// P8.4: the version of the last amendment that is not later than the time.
func TestAt(t *testing.T) {
	for time, want := range map[int]int{math.MinInt: 0, -1: 0, 4: 0, 5: 1, 6: 1, 8: 1, 9: 2, 10: 2, 19: 2, 20: 3, 21: 3, math.MaxInt: 3} {
		checkAt(t, at(5, 9, 20), time, want)
	}
	for time, want := range map[int]int{4: 0, 5: 3, 6: 3, 7: 5} {
		checkAt(t, at(5, 5, 5, 7, 7), time, want)
	}
	for _, time := range []int{math.MinInt, 0, math.MaxInt} {
		checkAt(t, nil, time, 0)
		checkAt(t, at(), time, 0)
		checkAt(t, at(math.MinInt), time, 1)
		checkAt(t, at(math.MinInt, time, math.MaxInt, math.MaxInt), time, map[bool]int{false: 2, true: 4}[time == math.MaxInt])
	}
}

// P8.4: times of amendments that decrease: the greatest number counts.
func TestAtOfTimesInDisorder(t *testing.T) {
	for time, want := range map[int]int{1: 0, 2: 2, 5: 2, 6: 4, 8: 4, 9: 5, 20: 5} {
		checkAt(t, at(5, 2, 7, 6, 9), time, want)
	}
	for time, want := range map[int]int{0: 0, 1: 3, 2: 3, 3: 3} {
		checkAt(t, at(3, 2, 1), time, want)
	}
	checkAt(t, at(math.MaxInt, math.MinInt, math.MaxInt), math.MinInt, 2)
}

// P8.4: any other number of versions than one more than the amendments.
func TestAtWithOtherNumbersOfVersions(t *testing.T) {
	for versions := range 6 {
		for amendments := range 6 {
			if versions == amendments+1 {
				continue
			}
			got, ok := amend.At(numbered(versions), make([]api.Amendment, amendments), 5)
			if ok || !reflect.DeepEqual(got, api.Tender{}) {
				t.Errorf("At of %d versions and %d amendments: %+v, %v", versions, amendments, got, ok)
			}
		}
	}
	if got, ok := amend.At(nil, nil, 0); ok || !reflect.DeepEqual(got, api.Tender{}) {
		t.Errorf("At of nothing: %+v, %v", got, ok)
	}
}

// P8.4, in other words, for random times.
func TestAtInWords(t *testing.T) {
	r := rand.New(rand.NewSource(84))
	for range 5000 {
		var times []int
		for range r.Intn(8) {
			times = append(times, r.Intn(10))
		}
		for time := -1; time <= 10; time++ {
			want := 0
			for k, of := range times {
				if of <= time {
					want = k + 1
				}
			}
			checkAt(t, at(times...), time, want)
		}
	}
}

// R3: the result has memory of its own, and arguments stay; P1: formulas that cannot be written out.
func TestAtOwnership(t *testing.T) {
	versions, l := []api.Tender{chairs(t), chairs(t)}, at(5)
	for time := 4; time <= 5; time++ {
		got, ok := amend.At(versions, l, time)
		if !ok || !text.Equal(got, chairs(t)) {
			t.Fatalf("At %d: %+v, %v", time, got, ok)
		}
		got.Lots[0].Most, got.Criteria[0].High, got.Requires[0].Value, got.Ties[0], got.Combos[0][0] = 8, 8, 8, "changed", 8
		got.Formula.Args[0].Args[0].Op = "changed"
	}
	if !reflect.DeepEqual(versions, []api.Tender{chairs(t), chairs(t)}) || !reflect.DeepEqual(l, at(5)) {
		t.Errorf("the arguments have changed: %+v, %v", versions, l)
	}
	for why, x := range vast() {
		if got, ok := amend.At([]api.Tender{{}, x}, at(5), 5); !ok || !text.Equal(got, x) {
			t.Errorf("At for a version %s: %v", why, ok)
		}
	}
}
