package text_test

import (
	"math/rand"
	"reflect"
	"slices"
	"strings"
	"testing"
	"unsafe"

	"probity/api"
	"probity/text"
)

const nameBytes = "abcdefghijklmnopqrstuvwxyzABCDEFGHIJKLMNOPQRSTUVWXYZ0123456789_"

func randomName(r *rand.Rand) string {
	n := 1 + r.Intn(4)
	if r.Intn(8) == 0 {
		n = 30
	}
	name := []byte{nameBytes[r.Intn(52)]}
	for len(name) < n {
		name = append(name, nameBytes[r.Intn(len(nameBytes))])
	}
	return string(name)
}

func randomWord(r *rand.Rand) string {
	for {
		if n := randomName(r); !slices.Contains([]string{"price", "low", "min", "max"}, n) {
			return n
		}
	}
}

func randomNumber(r *rand.Rand) int {
	return []int{0, 1, r.Intn(10), r.Intn(1000), r.Intn(1000000001), 1000000000}[r.Intn(6)]
}

func randomDecimal(r *rand.Rand) api.Expr {
	millionths := []int{0, 1, 500000, r.Intn(1000000), 40000, 10 * r.Intn(100000)}[r.Intn(6)]
	whole := randomNumber(r)
	if whole == 1000000000 {
		millionths = 0
	}
	n, d := whole*1000000+millionths, 1000000
	for _, prime := range []int{2, 5} {
		for n%prime == 0 && d%prime == 0 {
			n, d = n/prime, d/prime
		}
	}
	return num(n, d)
}

// randomExpr returns a right expression with so many leaves and so great a depth at most.
func randomExpr(r *rand.Rand, leaves, depth int) api.Expr {
	if leaves == 1 || depth == 1 || r.Intn(6) == 0 {
		if r.Intn(3) == 0 {
			return randomDecimal(r)
		}
		return name([]string{"price", "low", randomWord(r)}[r.Intn(3)])
	}
	op := []string{"+", "-", "*", "/", "min", "max"}[r.Intn(6)]
	left := 1 + r.Intn(leaves-1)
	return apply(op, randomExpr(r, left, depth-1), randomExpr(r, leaves-left, depth-1))
}

func randomTender(r *rand.Rand) api.Tender {
	x := api.Tender{Name: randomName(r), Formula: randomExpr(r, 1+r.Intn(30), 12)}
	for i := range 1 + r.Intn(12) {
		x.Lots = append(x.Lots, api.Lot{Id: 1 + i + 13*r.Intn(70000000), Most: randomNumber(r)}) // different modulo 13
	}
	for i := range r.Intn(13) {
		unique := string(nameBytes[i]) + "_" + randomWord(r)
		x.Criteria = append(x.Criteria, api.Criterion{Name: unique[:min(30, len(unique))], Kind: 1 + r.Intn(2), Low: randomNumber(r), High: randomNumber(r), Less: r.Intn(2) == 0})
	}
	for range r.Intn(25) {
		x.Requires = append(x.Requires, api.Require{Name: randomWord(r), Rel: []string{"<=", ">="}[r.Intn(2)], Value: randomNumber(r)})
	}
	x.Low, x.High, x.Most, x.Budget = randomNumber(r), randomNumber(r), randomNumber(r), randomNumber(r)
	for i := range r.Intn(13) {
		x.Ties = append(x.Ties, "t"+string(nameBytes[i]))
	}
	if len(x.Ties) > 0 {
		x.Ties[r.Intn(len(x.Ties))] = "price"
	}
	for range r.Intn(6) {
		combo := upTo(2 + r.Intn(11))
		combo[0] = 1000000000 - r.Intn(1000)
		r.Shuffle(len(combo), func(i, j int) { combo[i], combo[j] = combo[j], combo[i] })
		x.Combos = append(x.Combos, combo)
	}
	x.Times = api.Times{Questions: randomNumber(r), Bids: randomNumber(r), Grades: randomNumber(r), Prices: randomNumber(r), Still: randomNumber(r)}
	return x
}

// P2.6: Parse of Print, and Formula of PrintFormula, undo them.
func TestRoundTrip(t *testing.T) {
	r := rand.New(rand.NewSource(2))
	printed := 0
	for range 3000 {
		e := randomExpr(r, 1+r.Intn(30), 12)
		checkFormula(t, text.PrintFormula(e), e)
		x := randomTender(r)
		s := text.Print(x)
		if s == "" {
			continue
		}
		printed++
		if y := checkParses(t, s); !reflect.DeepEqual(x, y) || !text.Equal(x, y) {
			t.Errorf("Parse of Print: %v, want %v", y, x)
		}
	}
	if printed < 2900 {
		t.Errorf("only %d of 3000 random tenders are right", printed)
	}
}

// disordered returns the text with its lines in another order, those of one kind in their order, and with other blanks.
func disordered(r *rand.Rand, s string) string {
	rank := map[string]int{}
	var lines []string
	for line := range strings.Lines(s) {
		word, _, _ := strings.Cut(line, " ")
		rank[word] = r.Int()
		lines = append(lines, strings.TrimSuffix(line, "\n"))
	}
	slices.SortStableFunc(lines, func(a, b string) int {
		x, _, _ := strings.Cut(a, " ")
		y, _, _ := strings.Cut(b, " ")
		return rank[x] - rank[y]
	})
	var out strings.Builder
	for _, line := range lines {
		out.WriteString(strings.Repeat("\n", r.Intn(2)) + strings.Repeat(" ", r.Intn(2)))
		out.WriteString(strings.ReplaceAll(line, " ", strings.Repeat(" ", 1+r.Intn(3))))
		out.WriteString(strings.Repeat(" ", r.Intn(2)) + "\n" + strings.Repeat(" \n", r.Intn(2)))
	}
	return strings.TrimSuffix(out.String(), strings.Repeat("\n", r.Intn(2)))
}

// P2.6: blanks between tokens, empty lines, and the order of lines of different kinds play no part.
func TestRoundTripDisordered(t *testing.T) {
	r := rand.New(rand.NewSource(3))
	for range 2000 {
		x := randomTender(r)
		s := disordered(r, text.Print(x))
		if len(s) > 4000 || strings.TrimSpace(s) == "" {
			continue
		}
		if y := checkParses(t, s); !text.Equal(x, y) {
			t.Errorf("Parse of %q: %v, want %v", s, y, x)
		}
	}
}

// checkConsistent checks what holds for all texts: an error has an offset in the text and a zero tender; otherwise the tender is right, unless its text is too long.
func checkConsistent(t *testing.T, s string) (parsed bool) {
	t.Helper()
	x, at, kind := text.Parse(s)
	if kind != api.OK {
		if at < 0 || at > len(s) || !reflect.DeepEqual(x, api.Tender{}) {
			t.Errorf("Parse(%q): error %d at %d, %v", s, kind, at, x)
		}
		return false
	}
	printed := text.Print(x)
	if at != 0 || printed == "" && len(s) < 2000 {
		t.Errorf("Parse(%q): OK at %d, but Print is empty", s, at)
	}
	if printed != "" && !text.Equal(checkParses(t, printed), x) {
		t.Errorf("Parse of Print of Parse(%q) differs", s)
	}
	return true
}

// P2.6 and P1: texts with random faults.
func TestParseRandomFaults(t *testing.T) {
	r := rand.New(rand.NewSource(4))
	pieces := []string{"", " ", "\n", "0", "1", "00", "1000000000", "1000000001", "price", "low", "min", "max", "lot", "tender", "less", "most", "(", ")", ",", "+", "-", "*", "/", ".", "_", "<=", ">=", "a", "comfort", "\x00", "\xff", "\r", "\t", "99999999999999999999", "formula", "combo 1 2\n", "lot 7 most 7\n", "tie a b\n"}
	parsed := 0
	for range 40000 {
		s := []string{chairs, everything}[r.Intn(2)]
		for range 1 + r.Intn(3) {
			i := r.Intn(len(s) + 1)
			j := min(len(s), i+r.Intn(3)*r.Intn(4))
			s = s[:i] + pieces[r.Intn(len(pieces))] + s[j:]
		}
		if checkConsistent(t, s) {
			parsed++
		}
	}
	if parsed < 1000 || parsed > 39000 {
		t.Errorf("%d of 40000 texts with faults are parsed", parsed)
	}
}

// R3 and R4: results share no memory with each other, and are the same each time.
func TestResultsAreNew(t *testing.T) {
	first := checkParses(t, everything)
	second := checkParses(t, everything)
	first.Lots[0].Id, first.Criteria[0].Name, first.Requires[0].Value, first.Ties[0], first.Combos[0][0] = 9, "z", 9, "z", 9
	first.Formula.Args[0].Args[0].Args[0].Name = "z"
	if want := everythingMeans(); !reflect.DeepEqual(second, want) || !reflect.DeepEqual(checkParses(t, everything), want) {
		t.Errorf("a change of a result changes another one: %v", second)
	}
	e, _, _ := text.Formula("(a + b) * (a + b)")
	e.Args[0].Args[0].Name = "z"
	if e.Args[1].Args[0].Name != "a" {
		t.Errorf("parts of an expression share memory: %v", e)
	}
}

// stringsOf returns all strings in an expression.
func stringsOf(e api.Expr) []string {
	all := []string{e.Op, e.Name}
	for _, a := range e.Args {
		all = append(all, stringsOf(a)...)
	}
	return all
}

// checkNotIn checks that none of the strings lies in the memory of s.
func checkNotIn(t *testing.T, s string, results []string) {
	t.Helper()
	start := uintptr(unsafe.Pointer(unsafe.StringData(s)))
	for _, x := range results {
		if at := uintptr(unsafe.Pointer(unsafe.StringData(x))); x != "" && start <= at && at < start+uintptr(len(s)) {
			t.Errorf("the result %q shares memory with the argument", x)
		}
	}
}

// R3: results share no memory with arguments.
func TestResultsShareNothing(t *testing.T) {
	s := strings.Clone(everything)
	x := checkParses(t, s)
	results := append(stringsOf(x.Formula), x.Name, x.Criteria[0].Name, x.Requires[0].Name, x.Requires[0].Rel, x.Ties[0], x.Ties[1])
	checkNotIn(t, s, results)
	s = strings.Clone("a - max(b / c, 1.5) * (price + low)")
	e, _, _ := text.Formula(s)
	checkNotIn(t, s, stringsOf(e))
	s = strings.Clone("name")
	checkNotIn(t, s, []string{text.PrintFormula(name(s))})
}
