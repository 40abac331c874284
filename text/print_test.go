package text_test

import (
	"math"
	"reflect"
	"strconv"
	"strings"
	"testing"

	"probity/api"
	"probity/text"
)

// P2.2: the lines, in their order.
func TestPrint(t *testing.T) {
	for _, s := range []string{chairs, everything} {
		if got := text.Print(checkParses(t, s)); got != s {
			t.Errorf("Print: %q, want %q", got, s)
		}
	}
	if got := text.Print(everythingMeans()); got != everything {
		t.Errorf("Print: %q, want %q", got, everything)
	}
	const untidy = "times 1 2 3 4 5\n\n budget   0\nmost 0\ncombo 2 1\nformula (a)-(b*c)\nprice 9 8\nrequire a >= 0\ntie b a price\nlot 2 most 7\ncriterion b grade 0 0\nlot 1 most 7\ntender min"
	const tidy = "tender min\nlot 2 most 7\nlot 1 most 7\ncriterion b grade 0 0\nrequire a >= 0\nprice 9 8\nformula a - b * c\ntie b a price\ncombo 2 1\nbudget 0\ntimes 1 2 3 4 5\n"
	if got := text.Print(checkParses(t, untidy)); got != tidy {
		t.Errorf("Print: %q, want %q", got, tidy)
	}
}

// P2.2 and R1: empty lists do not differ from nil; and arguments are not modified.
func TestPrintEmptyLists(t *testing.T) {
	x := checkParses(t, chairs)
	x.Requires, x.Ties, x.Combos = []api.Require{}, []string{}, [][]int{}
	if got := text.Print(x); got != chairs {
		t.Errorf("Print with empty lists: %q", got)
	}
	y := everythingMeans()
	text.Print(y)
	if !reflect.DeepEqual(y, everythingMeans()) {
		t.Errorf("Print modifies its argument: %v", y)
	}
}

func lots(n int) []api.Lot {
	var list []api.Lot
	for i := range n {
		list = append(list, api.Lot{Id: i + 1, Most: i})
	}
	return list
}

func criteria(n int) []api.Criterion {
	var list []api.Criterion
	for i := range n {
		list = append(list, api.Criterion{Name: "c" + strconv.Itoa(i), Kind: api.KindOffer})
	}
	return list
}

func words(n int) []string {
	var list []string
	for i := range n {
		list = append(list, "w"+strconv.Itoa(i))
	}
	return list
}

func upTo(n int) []int {
	var list []int
	for i := range n {
		list = append(list, i+1)
	}
	return list
}

func repeated[T any](n int, x T) []T {
	list := make([]T, n)
	for i := range list {
		list[i] = x
	}
	return list
}

type edit struct {
	why  string
	edit func(t *api.Tender)
}

// P2.2: what is right up to the limits.
func TestPrintRight(t *testing.T) {
	const most = 1000000000
	rule := api.Require{Name: "a", Rel: "<="}
	for _, e := range []edit{
		{"nothing", func(t *api.Tender) {}},
		{"a long name", func(t *api.Tender) { t.Name = strings.Repeat("z", 30) }},
		{"a name that is no word", func(t *api.Tender) { t.Name = "low" }},
		{"12 lots", func(t *api.Tender) { t.Lots = lots(12) }},
		{"the greatest lot", func(t *api.Tender) { t.Lots = []api.Lot{{Id: most, Most: most}, {Id: 1}} }},
		{"12 criteria", func(t *api.Tender) { t.Criteria = criteria(12) }},
		{"no criteria", func(t *api.Tender) { t.Criteria = nil }},
		{"a criterion with low above high", func(t *api.Tender) { t.Criteria[0].Low, t.Criteria[0].High = most, 0 }},
		{"24 requirements", func(t *api.Tender) { t.Requires = repeated(24, rule) }},
		{"the greatest requirement", func(t *api.Tender) { t.Requires = []api.Require{{Name: "z9", Rel: ">=", Value: most}} }},
		{"12 ties", func(t *api.Tender) { t.Ties = append(words(11), "price") }},
		{"12 combos", func(t *api.Tender) { t.Combos = repeated(12, []int{1, 2}) }},
		{"12 lots of a combo", func(t *api.Tender) { t.Combos = [][]int{upTo(12), {most, 1}} }},
		{"the greatest numbers", func(t *api.Tender) { t.Low, t.High, t.Most, t.Budget = most, most, most, most }},
		{"the greatest times", func(t *api.Tender) {
			t.Times = api.Times{Questions: most, Bids: most, Grades: most, Prices: most, Still: most}
		}},
		{"zeros", func(t *api.Tender) { t.Low, t.High, t.Most, t.Budget, t.Times = 0, 0, 0, 0, api.Times{} }},
		{"names that mean nothing", func(t *api.Tender) { t.Formula = name("nothing"); t.Ties = []string{"nothing"} }},
		{"the depth 12", func(t *api.Tender) { t.Formula = tower(12) }},
	} {
		x := checkParses(t, everything)
		e.edit(&x)
		printed := text.Print(x)
		if printed == "" {
			t.Errorf("Print of a right tender (%s) is empty", e.why)
			continue
		}
		if y := checkParses(t, printed); !text.Equal(x, y) {
			t.Errorf("Parse of Print (%s): %v, want %v", e.why, y, x)
		}
	}
}

func wrongTenders() []edit {
	const over = 1000000001
	edits := []edit{
		{"no name", func(t *api.Tender) { t.Name = "" }},
		{"a name that begins with a digit", func(t *api.Tender) { t.Name = "1a" }},
		{"a name with a blank", func(t *api.Tender) { t.Name = "a b" }},
		{"a name with a line end", func(t *api.Tender) { t.Name = "a\n" }},
		{"a name of 31 bytes", func(t *api.Tender) { t.Name = strings.Repeat("a", 31) }},
		{"no lots", func(t *api.Tender) { t.Lots = nil }},
		{"13 lots", func(t *api.Tender) { t.Lots = lots(13) }},
		{"two equal lots", func(t *api.Tender) { t.Lots = []api.Lot{{Id: 1, Most: 1}, {Id: 2}, {Id: 1, Most: 2}} }},
		{"the lot 0", func(t *api.Tender) { t.Lots[1].Id = 0 }},
		{"the lot -1", func(t *api.Tender) { t.Lots[1].Id = -1 }},
		{"a lot that is too great", func(t *api.Tender) { t.Lots[1].Id = over }},
		{"a most of a lot that is negative", func(t *api.Tender) { t.Lots[0].Most = -1 }},
		{"a most of a lot that is too great", func(t *api.Tender) { t.Lots[0].Most = over }},
		{"13 criteria", func(t *api.Tender) { t.Criteria = criteria(13) }},
		{"two equal criteria", func(t *api.Tender) { t.Criteria[1].Name = t.Criteria[0].Name }},
		{"a criterion price", func(t *api.Tender) { t.Criteria[0].Name = "price" }},
		{"a criterion low", func(t *api.Tender) { t.Criteria[0].Name = "low" }},
		{"a criterion min", func(t *api.Tender) { t.Criteria[0].Name = "min" }},
		{"a criterion max", func(t *api.Tender) { t.Criteria[0].Name = "max" }},
		{"a criterion without name", func(t *api.Tender) { t.Criteria[1].Name = "" }},
		{"the kind 0", func(t *api.Tender) { t.Criteria[0].Kind = 0 }},
		{"the kind 3", func(t *api.Tender) { t.Criteria[0].Kind = 3 }},
		{"a low of a criterion that is negative", func(t *api.Tender) { t.Criteria[0].Low = -1 }},
		{"a high of a criterion that is too great", func(t *api.Tender) { t.Criteria[0].High = over }},
		{"25 requirements", func(t *api.Tender) { t.Requires = repeated(25, t.Requires[0]) }},
		{"a requirement on price", func(t *api.Tender) { t.Requires[0].Name = "price" }},
		{"a requirement without name", func(t *api.Tender) { t.Requires[0].Name = "" }},
		{"a relation =", func(t *api.Tender) { t.Requires[0].Rel = "=" }},
		{"no relation", func(t *api.Tender) { t.Requires[0].Rel = "" }},
		{"a requirement that is negative", func(t *api.Tender) { t.Requires[0].Value = -1 }},
		{"a requirement that is too great", func(t *api.Tender) { t.Requires[0].Value = over }},
		{"13 ties", func(t *api.Tender) { t.Ties = words(13) }},
		{"two equal ties", func(t *api.Tender) { t.Ties = []string{"a", "price", "a"} }},
		{"a tie low", func(t *api.Tender) { t.Ties = []string{"low"} }},
		{"a tie without name", func(t *api.Tender) { t.Ties = []string{""} }},
		{"13 combos", func(t *api.Tender) { t.Combos = repeated(13, []int{1, 2}) }},
		{"a combo of none", func(t *api.Tender) { t.Combos = [][]int{nil} }},
		{"a combo of one", func(t *api.Tender) { t.Combos = [][]int{{1, 2}, {1}} }},
		{"a combo of 13", func(t *api.Tender) { t.Combos = [][]int{upTo(13)} }},
		{"a combo with equal lots", func(t *api.Tender) { t.Combos = [][]int{{1, 2, 1}} }},
		{"a combo with 0", func(t *api.Tender) { t.Combos = [][]int{{1, 0}} }},
		{"a combo with a number that is negative", func(t *api.Tender) { t.Combos = [][]int{{1, -2}} }},
		{"a combo with a number that is too great", func(t *api.Tender) { t.Combos = [][]int{{1, over}} }},
	}
	for why, e := range wrongExprs() {
		edits = append(edits, edit{"a formula: " + why, func(t *api.Tender) { t.Formula = e }})
	}
	for _, n := range []int{-1, over, math.MinInt, math.MaxInt} {
		edits = append(edits,
			edit{"a low price", func(t *api.Tender) { t.Low = n }},
			edit{"a high price", func(t *api.Tender) { t.High = n }},
			edit{"a most", func(t *api.Tender) { t.Most = n }},
			edit{"a budget", func(t *api.Tender) { t.Budget = n }},
			edit{"an end of questions", func(t *api.Tender) { t.Times.Questions = n }},
			edit{"an end of bids", func(t *api.Tender) { t.Times.Bids = n }},
			edit{"an end of grades", func(t *api.Tender) { t.Times.Grades = n }},
			edit{"an end of prices", func(t *api.Tender) { t.Times.Prices = n }},
			edit{"a standstill", func(t *api.Tender) { t.Times.Still = n }},
		)
	}
	return edits
}

// P2.2: the empty string for tenders that are not right.
func TestPrintWrong(t *testing.T) {
	for _, e := range wrongTenders() {
		x := everythingMeans()
		e.edit(&x)
		if got := text.Print(x); got != "" {
			t.Errorf("Print of a wrong tender (%s): %q", e.why, got)
		}
	}
	if got := text.Print(api.Tender{}); got != "" {
		t.Errorf("Print of the zero tender: %q", got)
	}
}

// ofLength returns a right tender whose text has so many bytes, if it were not for the limit.
func ofLength(t *testing.T, n int) api.Tender {
	long := func(i int) string { return strings.Repeat("n", 28) + strconv.Itoa(i+10) }
	var x api.Tender
	x.Name, x.Formula = "a", name("a")
	for i := range 12 {
		x.Lots = append(x.Lots, api.Lot{Id: 1000000000 - i, Most: 1000000000})
		x.Criteria = append(x.Criteria, api.Criterion{Name: long(i), Kind: api.KindGrade, Low: 1000000000, High: 1000000000, Less: true})
		x.Ties = append(x.Ties, long(i))
		combo := upTo(12)
		for j := range combo {
			combo[j] += i / 8 * 900000000
		}
		x.Combos = append(x.Combos, combo)
	}
	for range 11 {
		x.Formula = apply("+", x.Formula, name(long(0)))
	}
	x.Requires = repeated(24, api.Require{Name: "a", Rel: "<=", Value: 1000000000})
	rest := n - len(text.Print(x))
	if rest < 0 || rest > 24*29 {
		t.Fatalf("%d bytes cannot be added to a text", rest)
	}
	for i := 0; rest > 0; i++ {
		more := min(rest, 29)
		x.Requires[i].Name += strings.Repeat("a", more)
		rest -= more
	}
	return x
}

// P2.2: a right tender has at most 4000 bytes as a text.
func TestPrintLength(t *testing.T) {
	for n := 3900; n <= 4000; n++ {
		x := ofLength(t, n)
		printed := text.Print(x)
		if len(printed) != n {
			t.Fatalf("Print: %d bytes, want %d: %q", len(printed), n, printed)
		}
		if !text.Equal(checkParses(t, printed), x) {
			t.Errorf("Parse of Print with %d bytes: another tender", n)
		}
	}
	for n := 4001; n <= 4080; n++ {
		if got := text.Print(ofLength(t, n)); got != "" {
			t.Errorf("Print with %d bytes: %d bytes", n, len(got))
		}
	}
}

// P2.2 and P2.6: a text with few blanks can mean a tender that is too long.
func TestPrintOfTightText(t *testing.T) {
	x := ofLength(t, 3995)
	tight := strings.ReplaceAll(text.Print(x), " + ", "+")
	x = checkParses(t, strings.Replace(tight, "most 1000000000\n", "most 1000000000\nmost 1000000000\n", 1))
	if got := text.Print(x); got != "" {
		t.Errorf("Print of a tender that is too long: %d bytes", len(got))
	}
}
