package text_test

import (
	"reflect"
	"slices"
	"strconv"
	"strings"
	"testing"

	"probity/api"
	"probity/text"
)

const chairs = "tender Chairs\nlot 1 most 500\ncriterion comfort grade 0 10\nprice 1 500\nformula 0.6 * low / price + 0.04 * comfort\nbudget 500\ntimes 10 20 30 40 5\n"

// everything has lines of all kinds.
const everything = `tender price
lot 3 most 0
lot 1000000000 most 1000000000
criterion a_1 grade 0 10
criterion Days offer 5 1000000000 less
require Days <= 30
require a_1 >= 0
require Days >= 6
price 1 500
formula min(low / price, 1.5) - 0.000001 * a_1
tie price Days
most 2
combo 3 1000000000
combo 1 2 3
budget 900
times 10 20 30 40 5
`

func everythingMeans() api.Tender {
	return api.Tender{
		Name:     "price",
		Lots:     []api.Lot{{Id: 3, Most: 0}, {Id: 1000000000, Most: 1000000000}},
		Criteria: []api.Criterion{{Name: "a_1", Kind: api.KindGrade, Low: 0, High: 10}, {Name: "Days", Kind: api.KindOffer, Low: 5, High: 1000000000, Less: true}},
		Requires: []api.Require{{Name: "Days", Rel: "<=", Value: 30}, {Name: "a_1", Rel: ">=", Value: 0}, {Name: "Days", Rel: ">=", Value: 6}},
		Low:      1,
		High:     500,
		Formula: apply("-",
			apply("min", apply("/", name("low"), name("price")), num(3, 2)),
			apply("*", num(1, 1000000), name("a_1"))),
		Ties:   []string{"price", "Days"},
		Most:   2,
		Combos: [][]int{{3, 1000000000}, {1, 2, 3}},
		Budget: 900,
		Times:  api.Times{Questions: 10, Bids: 20, Grades: 30, Prices: 40, Still: 5},
	}
}

// marked returns the text without its mark |, and the offset of the mark.
func marked(t *testing.T, s string) (string, int) {
	t.Helper()
	before, after, found := strings.Cut(s, "|")
	if !found || strings.Contains(after, "|") {
		t.Fatalf("%q has not exactly one mark", s)
	}
	return before + after, len(before)
}

func checkParseFails(t *testing.T, s string, at int, kind api.Errno) {
	t.Helper()
	tender, gotAt, gotKind := text.Parse(s)
	if gotAt != at || gotKind != kind {
		t.Errorf("Parse(%q): error %d at %d, want %d at %d", s, gotKind, gotAt, kind, at)
	}
	if !reflect.DeepEqual(tender, api.Tender{}) {
		t.Errorf("Parse(%q): error %d with a tender that is not zero: %v", s, gotKind, tender)
	}
}

func checkParses(t *testing.T, s string) api.Tender {
	t.Helper()
	tender, at, kind := text.Parse(s)
	if at != 0 || kind != api.OK {
		t.Fatalf("Parse(%q): error %d at %d", s, kind, at)
	}
	return tender
}

// P2.1: the tender that the lines mean.
func TestParseMeans(t *testing.T) {
	if got, want := checkParses(t, everything), everythingMeans(); !reflect.DeepEqual(got, want) {
		t.Errorf("Parse: %v, want %v", got, want)
	}
	got := checkParses(t, chairs)
	if got.Most != 0 || len(got.Requires)+len(got.Ties)+len(got.Combos) != 0 {
		t.Errorf("fields without lines are not zero: %v", got)
	}
	if got := checkParses(t, chairs+"most 0"); got.Most != 0 {
		t.Errorf("most 0: %d", got.Most)
	}
}

// P2.1: the order of lines of different kinds, blanks and empty lines play no part.
func TestParseOrderAndBlanks(t *testing.T) {
	want := everythingMeans()
	lines := strings.Split(strings.TrimSuffix(everything, "\n"), "\n")
	slices.SortStableFunc(lines, func(a, b string) int { return -strings.Compare(strings.Fields(a)[0], strings.Fields(b)[0]) })
	sorted := strings.Join(lines, "\n")
	wide := "\n \n  " + strings.ReplaceAll(strings.ReplaceAll(sorted, " ", "   "), "\n", "  \n\n    \n ") + "\n\n   "
	for _, s := range []string{sorted, wide} {
		if got := checkParses(t, s); !reflect.DeepEqual(got, want) {
			t.Errorf("Parse(%q): %v, want %v", s, got, want)
		}
	}
}

// P2.1, error 1: tokens of lines; each line is added to the chairs.
func TestParseTokenErrors(t *testing.T) {
	for _, line := range []string{
		"|lots 2 most 5", "|Lot 2 most 5", "|LOT", "|grade", "|offer 1", "|less", "|7", "|?", "|lot,", "|\tlot 2 most 5", "|lot\t2 most 5", "|\r", "  |x", "|mostly 5", "|formula(a)", "|# nothing", "|é",
		"lot|", "lot  |", "lot |a most 5", "lot |-2 most 5", "lot |+2 most 5", "lot |02 most 5", "lot |00 most 5", "lot |2.0 most 5", "lot |2, most 5", "lot |2_ most 5", "lot 2|", "lot 2 |5", "lot 2 |Most 5", "lot 2 |least 5", "lot 2 most|", "lot 2 most |05", "lot 2 most |x", "lot 2 most |5\r", "lot 2 most 5 |6", "lot 2 most 5 |most", "lot |most 2",
		"criterion|", "criterion |price grade 0 1", "criterion |low grade 0 1", "criterion |min grade 0 1", "criterion |max grade 0 1", "criterion |7 grade 0 1", "criterion |_a grade 0 1", "criterion |a-b grade 0 1", "criterion |aé grade 0 1", "criterion |" + strings.Repeat("a", 31) + " grade 0 1",
		"criterion a|", "criterion a |0 1", "criterion a |Grade 0 1", "criterion a |less 0 1", "criterion a grade|", "criterion a grade |x 1", "criterion a offer 0|", "criterion a offer 0 |less", "criterion a offer 0 |-1", "criterion a offer 0 1 |more", "criterion a offer 0 1 |Less", "criterion a offer 0 1 |2", "criterion a offer 0 1 less |less",
		"require|", "require |price <= 1", "require |low >= 1", "require |1 >= 1", "require |<= 1", "require a|", "require a |< 1", "require a |= 1", "require a |== 1", "require a |=> 1", "require a |<=1", "require a <=|", "require a <= |b", "require a >= |01", "require a >= 1 |2",
		"tie|", "tie   |", "tie |low", "tie |min", "tie |max", "tie |7", "tie price |low", "tie price |,", "tie |price,a", "tie a |1a",
		"most|", "most |x", "most |1x", "most |007", "most 1 |2",
		"combo|", "combo 1|", "combo 1  |", "combo |x", "combo 1 |x", "combo 1 2 |x", "combo 1 2 |03", "combo 1 |2,3",
	} {
		s, at := marked(t, line)
		checkParseFails(t, chairs+s, len(chairs)+at, api.ErrToken)
		checkParseFails(t, chairs+s+"\nlot 2 most 5", len(chairs)+at, api.ErrToken)
	}
}

// P2.1, error 1: in each line of a text, a token that is permitted nowhere, one too many, or the end too early.
func TestParseTokensOfEachLine(t *testing.T) {
	shortened := []string{
		"criterion Days offer 5 1000000000", "tie price", "combo 1 2",
		"formula min(low / price, 1.5) - 0.000001", "formula min(low / price, 1.5)",
	}
	start := 0
	for line := range strings.SplitSeq(strings.TrimSuffix(everything, "\n"), "\n") {
		before, after := everything[:start], everything[start+len(line):]
		tokens := strings.Split(line, " ")
		for i := range tokens {
			head := strings.Join(tokens[:i], " ")
			if i > 0 && !slices.Contains(shortened, head) {
				checkParseFails(t, before+head+after, start+len(head), api.ErrToken)
				checkParseFails(t, before+head+"  "+after, start+len(head)+2, api.ErrToken)
			}
			wrong := slices.Clone(tokens)
			wrong[i] = "?"
			at := start + len(strings.Join(append(slices.Clone(tokens[:i]), ""), " "))
			checkParseFails(t, before+strings.Join(wrong, " ")+after, at, api.ErrToken)
		}
		checkParseFails(t, before+line+" ?"+after, start+len(line)+1, api.ErrToken)
		start += len(line) + 1
	}
}

// P2.1, error 2.
func TestParseRangeErrors(t *testing.T) {
	for _, line := range []string{
		"lot |0 most 5", "lot |1000000001 most 5", "lot |99999999999999999999999999999999 most 5", "lot |18446744073709551618 most 5", "lot 2 most |1000000001", "lot 2 most |10000000000",
		"criterion a grade |1000000001 1", "criterion a grade 0 |1000000001", "criterion a offer 0 |1000000001 less",
		"require a <= |1000000001", "most |1000000001", "most |9223372036854775808",
		"combo |0 1", "combo 1 |0", "combo 1 2 |0", "combo |1000000001 1", "combo 1 2 |1000000001",
	} {
		s, at := marked(t, line)
		checkParseFails(t, chairs+s, len(chairs)+at, api.ErrRange)
	}
	for _, edit := range [][2]string{
		{"price 1 500", "price |1000000001 500"}, {"price 1 500", "price 1 |1000000001"},
		{"budget 500", "budget |1000000001"},
		{"times 10 20 30 40 5", "times |1000000001 20 30 40 5"}, {"times 10 20 30 40 5", "times 10 20 30 40 |1000000001"}, {"times 10 20 30 40 5", "times 10 20 |1000000001 40 5"},
		{"formula 0.6", "formula |1000000001"}, {"formula 0.6", "formula |1000000000.000001"}, {"formula 0.6", "formula |0.1234567"},
	} {
		s, at := marked(t, strings.Replace(chairs, edit[0], edit[1], 1))
		checkParseFails(t, s, at, api.ErrRange)
	}
	checkParses(t, chairs+"lot 1000000000 most 1000000000\nlot 2 most 0\ncriterion a grade 1000000000 0\nrequire a <= 1000000000\nmost 1000000000\ncombo 1000000000 1")
}

// P2.1, error 3.
func TestParseNameErrors(t *testing.T) {
	for _, line := range []string{
		"|tender Other", "|tender", "|price 1 2", "|price x", "|formula 1", "|formula ?", "|budget 1", "|times 1 2 3 4 5", "|times",
		"most 1\n|most 1", "most 1\n|most x", "tie price\n|tie a", "tie price\n|tie price", "tie a\n|tie",
		"lot |1 most 5", "lot |1", "lot |1 x", "lot 2 most 5\nlot |2 most 6", "lot 2 most 5\nlot 3 most 5\nlot |2 most 5",
		"criterion |comfort grade 0 10", "criterion |comfort offer 0 10 less", "criterion |comfort", "criterion a grade 0 1\ncriterion b grade 0 1\ncriterion |a grade 0 1",
		"combo 1 |1", "combo 1 2 |1", "combo 1 2 |2 x", "combo 1 2 3 4 |2", "combo 1 2\ncombo 2 |2",
		"tie price |price", "tie a |a", "tie a b price |b", "tie a b price |b low",
	} {
		s, at := marked(t, line)
		checkParseFails(t, chairs+s, len(chairs)+at, api.ErrName)
	}
	checkParses(t, chairs+"combo 1 2\ncombo 1 2\nrequire a <= 1\nrequire a <= 1\ncriterion Comfort grade 0 10\ntie comfort Comfort tender")
}

func numbered(n int, line func(i string) string) string {
	var lines strings.Builder
	for i := 1; i <= n; i++ {
		lines.WriteString(line(strconv.Itoa(i)) + "\n")
	}
	return lines.String()
}

// P2.1, error 4: numbers of lines.
func TestParseManyLines(t *testing.T) {
	for _, c := range []struct {
		most int
		line func(i string) string
		more string
	}{
		{11, func(i string) string { return "lot " + i + "0 most " + i }, "|lot 7 most 7"},
		{11, func(i string) string { return "lot " + i + "0 most " + i }, "|lot 0 ?"},
		{11, func(i string) string { return "criterion c" + i + " grade 0 1" }, "|criterion c77 grade 0 1"},
		{11, func(i string) string { return "criterion c" + i + " grade 0 1" }, "|criterion comfort"},
		{12, func(i string) string { return "combo 1 1" + i }, "|combo 1 2"},
		{12, func(i string) string { return "combo 1 1" + i }, "|combo 0"},
		{24, func(i string) string { return "require comfort <= " + i }, "|require comfort <= 1"},
		{24, func(i string) string { return "require comfort <= " + i }, "|require"},
	} {
		full := chairs + numbered(c.most, c.line)
		checkParses(t, full)
		s, at := marked(t, full+c.more)
		checkParseFails(t, s, at, api.ErrMany)
		checkParseFails(t, s+"\n?", at, api.ErrMany)
	}
}

// P2.1, error 4: numbers of a combo, and names of a tie.
func TestParseManyInLine(t *testing.T) {
	for _, line := range []string{
		"combo 1 2 3 4 5 6 7 8 9 10 11 12 |13", "combo 1 2 3 4 5 6 7 8 9 10 11 12 |13 14 x", "combo 1 2 3 4 5 6 7 8 9 10 11 12 |13 1",
		"tie a b c d e f g h i j k l |m", "tie a b c d e f g h i j k price |m", "tie a b c d e f g h i j k l |price low", "tie a b c d e f g h i j k l |m m",
	} {
		s, at := marked(t, line)
		checkParseFails(t, chairs+s, len(chairs)+at, api.ErrMany)
		checkParses(t, chairs+strings.TrimRight(s[:at], " "))
	}
	for line, kind := range map[string]api.Errno{
		"combo 1 2 3 4 5 6 7 8 9 10 11 12 |12":         api.ErrName,
		"combo 1 2 3 4 5 6 7 8 9 10 11 12 |0":          api.ErrRange,
		"combo 1 2 3 4 5 6 7 8 9 10 11 12 |1000000001": api.ErrRange,
		"combo 1 2 3 4 5 6 7 8 9 10 11 12 |x":          api.ErrToken,
		"tie a b c d e f g h i j k l |a":               api.ErrName,
		"tie a b c d e f g h i j k l |low":             api.ErrToken,
	} {
		s, at := marked(t, line)
		checkParseFails(t, chairs+s, len(chairs)+at, kind)
	}
}

// P2.1, error 4: the size of a formula is an error at its first token, found after the end of its line.
func TestParseManyInFormula(t *testing.T) {
	with := func(formula string) string {
		return strings.Replace(chairs, "formula 0.6 * low / price + 0.04 * comfort\n", "formula"+formula+"\n", 1)
	}
	deep := "a" + strings.Repeat(" + a", 12)
	checkParses(t, with(" a"+strings.Repeat(" + a", 11)))
	for _, formula := range []string{" |" + deep, "   |(" + deep + ")  ", " |min(" + deep + ", 1)", " |" + deep + "\nfoo", " |" + deep + "\nlot 1 most 7"} {
		s, at := marked(t, with(formula))
		checkParseFails(t, s, at, api.ErrMany)
	}
	for formula, kind := range map[string]api.Errno{" " + deep + " +|": api.ErrToken, " " + deep + " |)": api.ErrToken, " " + deep + " |a": api.ErrToken, " " + deep + " + |2000000000": api.ErrRange} {
		s, at := marked(t, with(formula))
		checkParseFails(t, s, at, kind)
	}
}

// P2.1: texts that are too long.
func TestParseLongTexts(t *testing.T) {
	longest := chairs + strings.Repeat(" ", 4000-len(chairs))
	checkParses(t, longest)
	checkParses(t, chairs+strings.Repeat("\n", 4000-len(chairs)))
	checkParseFails(t, longest+" ", 0, api.ErrMany)
	checkParseFails(t, strings.Repeat("?", 4001), 0, api.ErrMany)
	checkParseFails(t, strings.Repeat("x\n", 1<<20), 0, api.ErrMany)
	checkParseFails(t, strings.Repeat("?", 4000), 0, api.ErrToken)
}

// P2.1, error 5: lines that are missing.
func TestParseMissingLines(t *testing.T) {
	for _, s := range []string{"", " ", "\n", "   \n\n  \n "} {
		checkParseFails(t, s, len(s), api.ErrToken)
	}
	for _, word := range []string{"tender", "lot", "price", "formula", "budget", "times"} {
		var rest string
		for line := range strings.Lines(chairs) {
			if !strings.HasPrefix(line, word+" ") {
				rest += line
			}
		}
		for _, s := range []string{rest, strings.TrimSuffix(rest, "\n"), rest + "   ", rest + "\n \n\n"} {
			checkParseFails(t, s, len(s), api.ErrToken)
		}
		s, at := marked(t, rest+"|foo")
		checkParseFails(t, s, at, api.ErrToken)
	}
	checkParses(t, strings.Replace(chairs, "criterion comfort grade 0 10\n", "", 1))
}

// P2.1: the first error counts, in the order of the tokens.
func TestParseFirstError(t *testing.T) {
	for s, kind := range map[string]api.Errno{
		"tender |? x\nlots":                               api.ErrToken,
		"lot |0 most x":                                   api.ErrRange,
		"lot 1 |x 1000000001":                             api.ErrToken,
		"lot 1 most |1000000001 x":                        api.ErrRange,
		"lot 1 most 5\nlot |1 most 1000000001":            api.ErrName,
		"lot 1 most 5\nlot |01 most 5":                    api.ErrToken,
		"tender a\n|tender ?":                             api.ErrName,
		"price 2 1 |1\n?":                                 api.ErrToken,
		"combo |1000000001 x":                             api.ErrRange,
		"formula a + |2000000000 + ?":                     api.ErrRange,
		"formula a |2000000000":                           api.ErrToken,
		"times 1 2 3 4|":                                  api.ErrToken,
		"times 1 2 3 4 5 |6":                              api.ErrToken,
		"tender |" + strings.Repeat("a", 31):              api.ErrToken,
		"tender " + strings.Repeat("a", 30) + "|":         api.ErrToken,
		"tender |1a":                                      api.ErrToken,
		"tender a |b":                                     api.ErrToken,
		"budget |5\x00":                                   api.ErrToken,
		"lot 1 most |5\rlot 2 most 5":                     api.ErrToken,
		"tender |a\x00b":                                  api.ErrToken,
		"budget 1000000000 |\xff":                         api.ErrToken,
		"criterion a grade 0 1\ncriterion |a foo":         api.ErrName,
		"criterion a grade 0 1\ncriterion b |low 0 1":     api.ErrToken,
		"require b <= |2000000000 x":                      api.ErrRange,
		"tie |a-b":                                        api.ErrToken,
		"most |1000000001 2":                              api.ErrRange,
		"lot 1 most 5\ncombo 1 2\ncombo 1 2\ncombo |0 0":  api.ErrRange,
		"lot 1 most 5\ncombo 1 2\ncombo 1 2\ncombo 3 |03": api.ErrToken,
	} {
		s, at := marked(t, s)
		checkParseFails(t, s, at, kind)
	}
}
