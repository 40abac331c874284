package eval_test

import (
	"math"
	"math/rand"
	"reflect"
	"slices"
	"strconv"
	"testing"

	"probity/api"
	"probity/eval"
)

// bid is a tender, and a bid for one of its lots.
type bid struct {
	tender api.Tender
	entry  api.Entry
}

// goodBid returns a bid that is admitted.
func goodBid() bid {
	return bid{
		api.Tender{
			Lots: []api.Lot{{Id: 1, Most: 100}, {Id: 2, Most: 30}},
			Low:  10, High: 80,
			Criteria: []api.Criterion{
				{Name: "quality", Kind: api.KindGrade, Low: 0, High: 10},
				{Name: "days", Kind: api.KindOffer, Low: 1, High: 60, Less: true},
				{Name: "years", Kind: api.KindOffer, Low: 2, High: 5},
			},
			Requires: []api.Require{{Name: "days", Rel: "<=", Value: 30}, {Name: "years", Rel: ">=", Value: 3}, {Name: "days", Rel: ">=", Value: 4}},
		},
		api.Entry{Bidder: 7, Lot: 2, Receipt: 1, Price: 20, Values: []api.Value{{Name: "years", N: 4}, {Name: "quality", N: 5}, {Name: "days", N: 20}}},
	}
}

// edit changes a tender and a bid.
type edit struct {
	why    string
	change func(b *bid)
}

func checkAdmit(t *testing.T, want api.Errno, edits ...edit) {
	t.Helper()
	b := goodBid()
	why := ""
	for _, e := range edits {
		e.change(&b)
		why += e.why + "; "
	}
	if got := eval.Admit(b.tender, b.entry); got != want {
		t.Errorf("Admit after %s error %d, want %d", why, got, want)
	}
}

func setEntry(why string, change func(x *api.Entry)) edit {
	return edit{why, func(b *bid) { change(&b.entry) }}
}

func setTender(why string, change func(x *api.Tender)) edit {
	return edit{why, func(b *bid) { change(&b.tender) }}
}

func setPrice(n int) edit {
	return setEntry("price "+strconv.Itoa(n), func(x *api.Entry) { x.Price = n })
}

func setValue(name string, n int) edit {
	return setEntry(name+" "+strconv.Itoa(n), func(x *api.Entry) {
		for i := range x.Values {
			if x.Values[i].Name == name {
				x.Values[i].N = n
			}
		}
	})
}

func addValue(name string, n int) edit {
	return setEntry("another "+name, func(x *api.Entry) { x.Values = append(x.Values, api.Value{Name: name, N: n}) })
}

func removeValue(name string) edit {
	return setEntry("no "+name, func(x *api.Entry) {
		x.Values = slices.DeleteFunc(x.Values, func(v api.Value) bool { return v.Name == name })
	})
}

func setRequires(requires ...api.Require) edit {
	return setTender("requirements", func(x *api.Tender) { x.Requires = requires })
}

// P4.3: bids that are admitted.
func TestAdmitAdmits(t *testing.T) {
	checkAdmit(t, api.OK)
	for _, e := range []edit{
		setPrice(10), setPrice(30),
		setValue("quality", 0), setValue("quality", 10), setValue("years", 3), setValue("years", 5), setValue("days", 4), setValue("days", 30),
		setRequires(),
		setRequires(api.Require{Name: "quality", Rel: ">=", Value: 5}, api.Require{Name: "quality", Rel: "<=", Value: 5}),
		setEntry("bidder and receipt", func(x *api.Entry) { x.Bidder, x.Receipt = -1, math.MinInt }),
		setEntry("another order of values", func(x *api.Entry) { slices.Reverse(x.Values) }),
		setTender("another lot with this Id", func(x *api.Tender) { x.Lots = append(x.Lots, api.Lot{Id: 2, Most: 0}) }),
		setTender("one price", func(x *api.Tender) { x.Low, x.High, x.Lots[1].Most = 20, 20, 20 }),
		setTender("a wrong formula", func(x *api.Tender) { x.Formula = looping(2) }),
		setTender("another Kind", func(x *api.Tender) { x.Criteria[0].Kind = 77 }),
		setTender("a criterion twice", func(x *api.Tender) { x.Criteria = append(x.Criteria, x.Criteria[0]) }),
		setTender("negative numbers", func(x *api.Tender) {
			x.Low, x.Criteria[0].Low, x.Requires[1].Value = math.MinInt, math.MinInt, math.MinInt
		}),
	} {
		checkAdmit(t, api.OK, e)
	}
	checkAdmit(t, api.OK, setEntry("the first lot", func(x *api.Entry) { x.Lot = 1 }), setPrice(80))
	checkAdmit(t, api.OK, setTender("an unusual Id", func(x *api.Tender) { x.Lots[0].Id = -5 }), setEntry("an unusual lot", func(x *api.Entry) { x.Lot = -5 }))
	nothing := setTender("no criteria", func(x *api.Tender) { x.Criteria, x.Requires = nil, nil })
	checkAdmit(t, api.OK, nothing, setEntry("no values", func(x *api.Entry) { x.Values = nil }))
	checkAdmit(t, api.OK, nothing, setEntry("empty values", func(x *api.Entry) { x.Values = []api.Value{} }))
	checkAdmit(t, api.OK, setTender("an empty name", func(x *api.Tender) { x.Criteria[0].Name = "" }), removeValue("quality"), addValue("", 5))
}

// admitFaults returns, for each error of P4.3 in order, edits after which it applies; edits of different ones can be made together.
func admitFaults() []struct {
	err   api.Errno
	edits []edit
} {
	return []struct {
		err   api.Errno
		edits []edit
	}{
		{api.ErrNone, []edit{
			setEntry("lot 3", func(x *api.Entry) { x.Lot = 3 }),
			setEntry("lot 0", func(x *api.Entry) { x.Lot = 0 }),
			setTender("no lots", func(x *api.Tender) { x.Lots = nil }),
		}},
		{api.ErrValue, []edit{
			setPrice(9), setPrice(31), setPrice(81), setPrice(-20), setPrice(math.MaxInt), setPrice(math.MinInt),
			setTender("great prices", func(x *api.Tender) { x.Low = 21 }),
			setTender("small prices", func(x *api.Tender) { x.High = 19 }),
			setTender("a small lot first", func(x *api.Tender) { x.Lots = []api.Lot{{Id: 2, Most: 19}, {Id: 2, Most: 100}} }),
		}},
		{api.ErrValue, []edit{
			removeValue("quality"), removeValue("days"), removeValue("years"),
			setValue("quality", -1), setValue("quality", 11), setValue("days", 0), setValue("days", 61), setValue("years", 1), setValue("years", 6),
			setValue("quality", math.MinInt), setValue("years", math.MaxInt),
			addValue("quality", 5), addValue("days", 20), addValue("years", 1000),
			setEntry("no values", func(x *api.Entry) { x.Values = nil }),
			setTender("a further criterion", func(x *api.Tender) { x.Criteria = append(x.Criteria, api.Criterion{Name: "height", High: 1}) }),
			setTender("no range", func(x *api.Tender) { x.Criteria[0].Low, x.Criteria[0].High = 6, 4 }),
			setTender("the same criterion with another range", func(x *api.Tender) {
				x.Criteria = append(x.Criteria, api.Criterion{Name: "quality", Low: 6, High: 10})
			}),
		}},
		{api.ErrName, []edit{
			addValue("weight", 1), addValue("", 0), addValue("Days", 20), addValue("price", 20), addValue("low", 20),
			setEntry("a first value", func(x *api.Entry) { x.Values = append([]api.Value{{Name: "speed"}, {Name: "speed"}}, x.Values...) }),
		}},
		{api.ErrExclude, []edit{
			setValue("days", 31), setValue("days", 3), setValue("years", 2),
			setRequires(api.Require{Name: "quality", Rel: ">=", Value: 6}, api.Require{Name: "nothing"}),
			setRequires(api.Require{Name: "quality", Rel: "<=", Value: 4}, api.Require{Name: "days"}),
			setTender("a last requirement", func(x *api.Tender) {
				x.Requires = append(x.Requires, api.Require{Name: "days", Rel: "<=", Value: math.MinInt})
			}),
		}},
	}
}

// P4.3: each error alone, and of two errors the first one.
func TestAdmitFaults(t *testing.T) {
	all := admitFaults()
	for i, first := range all {
		for _, e := range first.edits {
			checkAdmit(t, first.err, e)
			for _, second := range all[i+1:] {
				for _, later := range second.edits {
					checkAdmit(t, first.err, later, e)
				}
			}
		}
	}
}

// P4.3: the errors of requirements, in order.
func TestAdmitRequirements(t *testing.T) {
	met := api.Require{Name: "quality", Rel: ">=", Value: 5}
	unmet := api.Require{Name: "quality", Rel: ">=", Value: 6}
	unknown := api.Require{Name: "weight", Rel: "<=", Value: 5}
	both := api.Require{Name: "weight", Rel: "="}
	checkAdmit(t, api.ErrName, setRequires(unknown))
	checkAdmit(t, api.ErrName, setRequires(both))
	checkAdmit(t, api.ErrName, setRequires(api.Require{}))
	for _, rel := range []string{"", "<", ">", "=", "==", "=<", "<= ", "=>"} {
		wrong := api.Require{Name: "days", Rel: rel, Value: 20}
		checkAdmit(t, api.ErrArg, setRequires(wrong))
		checkAdmit(t, api.ErrArg, setRequires(met, wrong, unknown, unmet))
		checkAdmit(t, api.ErrExclude, setRequires(met, unmet, wrong))
		checkAdmit(t, api.ErrName, setRequires(unknown, wrong))
	}
	checkAdmit(t, api.ErrName, setRequires(met, unknown, unmet))
	checkAdmit(t, api.ErrExclude, setRequires(met, unmet, unknown))
	checkAdmit(t, api.ErrExclude, setRequires(met, met, unmet))
	checkAdmit(t, api.OK, setRequires(met, met))
}

// P4.3: zero arguments have an error, and those that have nothing to be checked none.
func TestAdmitZeroArguments(t *testing.T) {
	if err := eval.Admit(api.Tender{}, api.Entry{}); err != api.ErrNone {
		t.Errorf("Admit of zero arguments: error %d", err)
	}
	if err := eval.Admit(api.Tender{Lots: []api.Lot{{}}}, api.Entry{}); err != api.OK {
		t.Errorf("Admit for a zero lot: error %d", err)
	}
}

// admitted is the contract of P4.3 in other words.
func admitted(t api.Tender, x api.Entry) api.Errno {
	lot := slices.IndexFunc(t.Lots, func(l api.Lot) bool { return l.Id == x.Lot })
	if lot < 0 {
		return api.ErrNone
	}
	if x.Price < t.Low || x.Price > t.High || x.Price > t.Lots[lot].Most {
		return api.ErrValue
	}
	numbers := func(name string) (list []int) {
		for _, v := range x.Values {
			if v.Name == name {
				list = append(list, v.N)
			}
		}
		return list
	}
	for _, c := range t.Criteria {
		if n := numbers(c.Name); len(n) != 1 || n[0] < c.Low || n[0] > c.High {
			return api.ErrValue
		}
	}
	for _, v := range x.Values {
		if !slices.ContainsFunc(t.Criteria, func(c api.Criterion) bool { return c.Name == v.Name }) {
			return api.ErrName
		}
	}
	for _, r := range t.Requires {
		n := numbers(r.Name)
		switch {
		case len(n) == 0:
			return api.ErrName
		case r.Rel != "<=" && r.Rel != ">=":
			return api.ErrArg
		case r.Rel == "<=" && n[0] > r.Value || r.Rel == ">=" && n[0] < r.Value:
			return api.ErrExclude
		}
	}
	return api.OK
}

// P4.3: random tenders and bids.
func TestAdmitRandom(t *testing.T) {
	r := rand.New(rand.NewSource(6))
	words := []string{"a", "b", "c"}
	seen := map[api.Errno]int{}
	for range 40000 {
		x := api.Entry{Lot: r.Intn(3), Price: r.Intn(9)}
		y := api.Tender{Low: r.Intn(3), High: 5 + r.Intn(4), Lots: []api.Lot{{Id: r.Intn(3), Most: 9}, {Id: r.Intn(3), Most: r.Intn(9)}}}
		for _, w := range words[:r.Intn(4)] {
			y.Criteria = append(y.Criteria, api.Criterion{Name: w, Low: r.Intn(2), High: 5})
			x.Values = append(x.Values, api.Value{Name: w, N: r.Intn(6)})
		}
		for range r.Intn(2) * r.Intn(3) {
			x.Values = append(x.Values, api.Value{Name: words[r.Intn(3)], N: r.Intn(6)})
		}
		for range r.Intn(3) {
			y.Requires = append(y.Requires, api.Require{Name: words[r.Intn(3)], Rel: []string{"<=", ">=", "<=", ">=", "<"}[r.Intn(5)], Value: r.Intn(6)})
		}
		got, want := eval.Admit(y, x), admitted(y, x)
		seen[got]++
		if got != want {
			t.Fatalf("Admit of %v in %v: error %d, want %d", x, y, got, want)
		}
	}
	for _, err := range []api.Errno{api.OK, api.ErrNone, api.ErrValue, api.ErrName, api.ErrArg, api.ErrExclude} {
		if seen[err] < 100 {
			t.Errorf("only %d results with error %d", seen[err], err)
		}
	}
}

// R5: long lists are no obstacle.
func TestAdmitManyCriteria(t *testing.T) {
	const many = 50000
	b := goodBid()
	b.tender.Criteria, b.tender.Requires, b.entry.Values = nil, nil, nil
	for i := range many {
		b.tender.Criteria = append(b.tender.Criteria, api.Criterion{Name: strconv.Itoa(i), High: i})
		b.tender.Requires = append(b.tender.Requires, api.Require{Name: strconv.Itoa(i), Rel: ">=", Value: i})
		b.entry.Values = append(b.entry.Values, api.Value{Name: strconv.Itoa(many - 1 - i), N: many - 1 - i})
	}
	if err := eval.Admit(b.tender, b.entry); err != api.OK {
		t.Errorf("Admit with many criteria: error %d", err)
	}
	b.entry.Values[many/2].N--
	if err := eval.Admit(b.tender, b.entry); err != api.ErrExclude {
		t.Errorf("Admit with a requirement that is not met: error %d", err)
	}
}

// R3: the arguments stay as they are.
func TestAdmitKeepsArguments(t *testing.T) {
	b := goodBid()
	eval.Admit(b.tender, b.entry)
	if !reflect.DeepEqual(b, goodBid()) {
		t.Errorf("Admit has changed its arguments: %v", b)
	}
}
