package text_test

import (
	"reflect"
	"strings"
	"testing"

	"probity/api"
	"probity/text"
)

func name(n string) api.Expr { return api.Expr{Op: "name", Name: n} }

func num(n, d int) api.Expr { return api.Expr{Op: "num", Num: api.Rat{Num: n, Den: d}} }

func apply(op string, a, b api.Expr) api.Expr {
	return api.Expr{Op: op, Args: []api.Expr{a, b}}
}

func checkFormula(t *testing.T, s string, want api.Expr) {
	t.Helper()
	got, at, kind := text.Formula(s)
	if at != 0 || kind != api.OK || !reflect.DeepEqual(got, want) {
		t.Errorf("Formula(%q): %v, error %d at %d, want %v", s, got, kind, at, want)
	}
}

func checkFormulaFails(t *testing.T, s string, at int, kind api.Errno) {
	t.Helper()
	got, gotAt, gotKind := text.Formula(s)
	if gotAt != at || gotKind != kind {
		t.Errorf("Formula(%.200q): error %d at %d, want %d at %d", s, gotKind, gotAt, kind, at)
	}
	if !reflect.DeepEqual(got, api.Expr{}) {
		t.Errorf("Formula(%.200q): error %d with an expression that is not zero", s, gotKind)
	}
}

// P2.3: what a formula means.
func TestFormulaMeans(t *testing.T) {
	a, b, c, d := name("a"), name("b"), name("c"), name("d")
	for s, want := range map[string]api.Expr{
		"a":                   a,
		"  a  ":               a,
		"((( a )) )":          a,
		"price":               name("price"),
		"low":                 name("low"),
		"minimum":             name("minimum"),
		"Min":                 name("Min"),
		"x_1_":                name("x_1_"),
		"a-b-c":               apply("-", apply("-", a, b), c),
		"a-(b-c)":             apply("-", a, apply("-", b, c)),
		"a+b-c+d":             apply("+", apply("-", apply("+", a, b), c), d),
		"a/b*c/d":             apply("/", apply("*", apply("/", a, b), c), d),
		"a/(b*c)":             apply("/", a, apply("*", b, c)),
		"a+b*c":               apply("+", a, apply("*", b, c)),
		"a*b+c":               apply("+", apply("*", a, b), c),
		"a*b-c/d":             apply("-", apply("*", a, b), apply("/", c, d)),
		"a-b*c-d":             apply("-", apply("-", a, apply("*", b, c)), d),
		"a*(b+c)*d":           apply("*", apply("*", a, apply("+", b, c)), d),
		"min(a,b)":            apply("min", a, b),
		"max ( a , b )":       apply("max", a, b),
		"min(a+b,c)*d":        apply("*", apply("min", apply("+", a, b), c), d),
		"a-max(b,c-d)":        apply("-", a, apply("max", b, apply("-", c, d))),
		"min(max(a,b),(c))":   apply("min", apply("max", a, b), c),
		"max((min(a,b)),c+d)": apply("max", apply("min", a, b), apply("+", c, d)),
		"a*min(b*c,d)/2":      apply("/", apply("*", a, apply("min", apply("*", b, c), d)), num(2, 1)),
		"0":                   num(0, 1),
		"7":                   num(7, 1),
		"0.5":                 num(1, 2),
		"0.000001":            num(1, 1000000),
		"12.25":               num(49, 4),
		"0.04":                num(1, 25),
		"999999999.999999":    num(999999999999999, 1000000),
		"1000000000":          num(1000000000, 1),
	} {
		checkFormula(t, s, want)
	}
}

// P2.3, error 1: forms of tokens.
func TestFormulaTokenErrors(t *testing.T) {
	long := strings.Repeat("a", 30)
	checkFormula(t, long, name(long))
	for _, marks := range []string{
		"|", "   |", "|+", "|-1", "|)", "|,", "(|)", "a +|", "a + |* b", "a |b", "a |1", "1 |a", "1|a", "1.5|a+b", "a |(b)", "a |min(b, c)", "(a|", "(a + b|", "(a |b)", "(a|, b)", "a|)", "a|, b", "((a)|", "(a)|))", "(a)|)",
		"min|", "min |+ 1", "min |a", "min(|", "min(|)", "min(a|", "min(a|)", "min(a,|", "min(a,|)", "min(a, b|", "min(a, b|, c)", "min(a, (b|, c))", "min((a|, b))", "min((a), b)|)", "min(a |min, b)", "max|*", "max(min|, a)", "a * max|", "min(1, x|",
		"|" + long + "a", "a + |" + strings.Repeat("b", 1000) + "1", "|_", "|_a", "a|é", "|é", "a |? b", "a|%b", "|^", "a|=b", "a|\tb", "|\n", "a|\n", "a +|\n b", "a|\r", "|\x00", "|.5", "a|.b", "a + |\xff",
		"|1.50", "|1.0", "|0.0", "|00", "|01", "|007.5", "|00.5", "a * |1.10", "1|.", "1|.a", "1|. 5", "1 |.5", "1.5|.5", "0|.", "12|.+1", "|1.50.5", "(|01)",
	} {
		s, at := marked(t, marks)
		checkFormulaFails(t, s, at, api.ErrToken)
		if !strings.Contains(s, "\n") {
			prefix := strings.Replace(chairs, "formula 0.6 * low / price + 0.04 * comfort\n", "", 1) + "formula "
			checkParseFails(t, prefix+s, len(prefix)+at, api.ErrToken)
		}
	}
}

// P2.3, error 2.
func TestFormulaRangeErrors(t *testing.T) {
	for _, marks := range []string{
		"|2000000000", "|1000000001", "|99999999999999999999", "|" + strings.Repeat("9", 5000), "|1000000001.5", "|1000000000.5", "|1000000000.000001", "|0.1234567", "|0.0000001", "|1." + strings.Repeat("1", 5000), "a + |2000000000 b", "min(|2000000000", "(|0.1234567", "|1000000001.1234567",
	} {
		s, at := marked(t, marks)
		checkFormulaFails(t, s, at, api.ErrRange)
	}
	for _, marks := range []string{"a |2000000000", "|0.12345670", "|2000000000.0", "|02000000000", "(a) |0.1234567", "min |2000000000"} {
		s, at := marked(t, marks)
		checkFormulaFails(t, s, at, api.ErrToken)
	}
}

// balanced returns a formula with 2 to the power of levels names, and the depth levels + 1.
func balanced(levels int) string {
	if levels == 0 {
		return "x"
	}
	half := balanced(levels - 1)
	return "(" + half + ")*(" + half + ")"
}

// P2.3, error 4: at most 60 parts, and the depth 12.
func TestFormulaManyErrors(t *testing.T) {
	chain := func(n int) string { return "a" + strings.Repeat("+a", n-1) }
	nested := func(n int) string { return strings.Repeat("min(a,", n) + "b" + strings.Repeat(")", n) }
	parts59 := balanced(4) + "+(" + balanced(3) + "*x*x*x*x*x*x)" // 31 + 1 + 27
	for _, s := range []string{chain(12), nested(11), parts59, "(" + balanced(4) + ")+(" + chain(10) + ")*(x*x*x*x)"} {
		if _, at, kind := text.Formula(s); at != 0 || kind != api.OK {
			t.Errorf("Formula(%q): error %d at %d", s, kind, at)
		}
	}
	for _, s := range []string{chain(13), nested(12), nested(11) + "+1", "a*" + nested(11), "min(1," + chain(12) + ")", balanced(5), "1+" + parts59, parts59 + "-1", chain(1 << 16)} {
		checkFormulaFails(t, s, 0, api.ErrMany)
		checkFormulaFails(t, "  "+s+"  ", 2, api.ErrMany)
		checkFormulaFails(t, "((("+s+")))", 0, api.ErrMany)
		checkFormulaFails(t, s+"+", len(s)+1, api.ErrToken)
		checkFormulaFails(t, s+"+2000000000", len(s)+1, api.ErrRange)
	}
}

// P2.3: parentheses are not parts, and may be nested to any depth.
func TestFormulaDeepParentheses(t *testing.T) {
	const n = 1 << 18
	open, closed := strings.Repeat("(", n), strings.Repeat(")", n)
	checkFormula(t, open+"a"+closed, name("a"))
	checkFormula(t, "b*"+open+"a+1"+closed+"-c", apply("-", apply("*", name("b"), apply("+", name("a"), num(1, 1))), name("c")))
	checkFormulaFails(t, open+"a"+closed[1:], 2*n, api.ErrToken)
	checkFormulaFails(t, open+"a"+closed+")", 2*n+1, api.ErrToken)
	checkFormulaFails(t, strings.Repeat("a+(", n)+"a"+closed, 0, api.ErrMany)
	checkFormulaFails(t, strings.Repeat("min(", n), 4*n, api.ErrToken)
}

// rules is the grammar of the chapter: what has forms here is replaced by one of them, anything else is a token.
var rules = map[string][][]string{
	"formula": {{"term"}, {"formula", "+", "term"}},
	"term":    {{"factor"}, {"term", "*", "factor"}},
	"factor":  {{"a"}, {"1.5"}, {"(", "formula", ")"}, {"min", "(", "formula", ",", "formula", ")"}},
}

// earley recognizes beginnings of formulas after Earley: its states exist as long as a formula begins with the tokens, whatever the grammar.
type earley struct{ states []map[state]bool }

type state struct {
	rule            string
	form, dot, from int
}

func newEarley() *earley {
	e := &earley{}
	e.add(map[state]bool{{"start", 0, 0, 0}: true})
	return e
}

func formOf(s state) []string {
	if s.rule == "start" {
		return []string{"formula", "end"}
	}
	return rules[s.rule][s.form]
}

// add completes a set of states, and adds it as the last one.
func (e *earley) add(set map[state]bool) {
	e.states = append(e.states, set)
	here := len(e.states) - 1
	var work []state
	for s := range set {
		work = append(work, s)
	}
	put := func(s state) {
		if !set[s] {
			set[s] = true
			work = append(work, s)
		}
	}
	for len(work) > 0 {
		s := work[len(work)-1]
		work = work[:len(work)-1]
		form := formOf(s)
		if s.dot == len(form) {
			for back := range e.states[s.from] {
				if f := formOf(back); back.dot < len(f) && f[back.dot] == s.rule {
					put(state{back.rule, back.form, back.dot + 1, back.from})
				}
			}
			continue
		}
		for i := range rules[form[s.dot]] {
			put(state{form[s.dot], i, 0, here})
		}
	}
}

// accepts reads a token, and reports whether a formula begins with the tokens up to it.
func (e *earley) accepts(token string) bool {
	next := map[state]bool{}
	for s := range e.states[len(e.states)-1] {
		if form := formOf(s); s.dot < len(form) && form[s.dot] == token {
			next[state{s.rule, s.form, s.dot + 1, s.from}] = true
		}
	}
	if len(next) == 0 {
		return false
	}
	e.add(next)
	return true
}

// P2.3, error 1: for all short sequences of tokens, the first one up to which no formula begins.
func TestFormulaBeginnings(t *testing.T) {
	alphabet := []string{"a", "1.5", "+", "*", "(", ")", ",", "min", "?"}
	const longest = 9
	var extend func(e *earley, s string, length int)
	extend = func(e *earley, s string, length int) {
		if e.accepts("end") {
			e.states = e.states[:len(e.states)-1]
			if got, at, kind := text.Formula(s); at != 0 || kind != api.OK || got.Op == "" {
				t.Errorf("Formula(%q): %v, error %d at %d", s, got, kind, at)
			}
		} else {
			checkFormulaFails(t, s, len(s), api.ErrToken)
		}
		for _, token := range alphabet {
			if !e.accepts(token) {
				checkFormulaFails(t, s+token+" ? (", len(s), api.ErrToken)
				continue
			}
			if length < longest {
				extend(e, s+token+" ", length+1)
			}
			e.states = e.states[:len(e.states)-1]
		}
	}
	extend(newEarley(), "", 0)
}

// P2.4: texts of right expressions.
func TestPrintFormula(t *testing.T) {
	a, b, c := name("a"), name("b"), name("c")
	for want, e := range map[string]api.Expr{
		"a":                   a,
		"price":               name("price"),
		"0":                   num(0, 1),
		"1000000000":          num(1000000000, 1),
		"0.5":                 num(1, 2),
		"0.000001":            num(1, 1000000),
		"0.04":                num(1, 25),
		"1.2":                 num(6, 5),
		"100":                 num(100, 1),
		"100.01":              num(10001, 100),
		"999999999.999999":    num(999999999999999, 1000000),
		"0.015625":            num(1, 64),
		"a + b - c":           apply("-", apply("+", a, b), c),
		"a + (b - c)":         apply("+", a, apply("-", b, c)),
		"a - (b + c)":         apply("-", a, apply("+", b, c)),
		"a * b / c":           apply("/", apply("*", a, b), c),
		"a * (b / c)":         apply("*", a, apply("/", b, c)),
		"a / (b * c)":         apply("/", a, apply("*", b, c)),
		"(a + b) * c":         apply("*", apply("+", a, b), c),
		"(a - b) / c":         apply("/", apply("-", a, b), c),
		"a * (b - c)":         apply("*", a, apply("-", b, c)),
		"a / (b + c)":         apply("/", a, apply("+", b, c)),
		"a * b + c":           apply("+", apply("*", a, b), c),
		"a - b / c":           apply("-", a, apply("/", b, c)),
		"a + b * c":           apply("+", a, apply("*", b, c)),
		"min(a, b)":           apply("min", a, b),
		"max(a + b, c * 2)":   apply("max", apply("+", a, b), apply("*", c, num(2, 1))),
		"a * min(b, c)":       apply("*", a, apply("min", b, c)),
		"max(a, b) / c":       apply("/", apply("max", a, b), c),
		"a - max(b, c)":       apply("-", a, apply("max", b, c)),
		"min(a, max(b, c))":   apply("min", a, apply("max", b, c)),
		"min(a - b, c) - a":   apply("-", apply("min", apply("-", a, b), c), a),
		"(a + b) * (a - b)":   apply("*", apply("+", a, b), apply("-", a, b)),
		"a - b - c * (c + 2)": apply("-", apply("-", a, b), apply("*", c, apply("+", c, num(2, 1)))),
	} {
		if got := text.PrintFormula(e); got != want {
			t.Errorf("PrintFormula(%v): %q, want %q", e, got, want)
		}
		checkFormula(t, want, e)
	}
}

// tower returns an expression of the depth n.
func tower(n int) api.Expr {
	e := name("a")
	for range n - 1 {
		e = apply("+", e, name("b"))
	}
	return e
}

// wrongExprs are not right, each for a reason of its own.
func wrongExprs() map[string]api.Expr {
	a := name("a")
	nothing := api.Expr{}
	shared := a
	for range 60 {
		shared = apply("*", shared, shared)
	}
	loop := []api.Expr{a, a}
	loop[1] = api.Expr{Op: "+", Args: loop}
	parts61 := apply("+", apply("+", tower(10), tower(10)), tower(11))
	return map[string]api.Expr{
		"zero":            nothing,
		"op":              {Op: "%", Args: []api.Expr{a, a}},
		"no op":           {Name: "a"},
		"case":            {Op: "Min", Args: []api.Expr{a, a}},
		"half":            num(2, 4),
		"den 0":           num(1, 0),
		"den -1":          num(1, -1),
		"num zero":        {Op: "num"},
		"negative":        num(-1, 2),
		"great":           num(1000000001, 1),
		"a little more":   num(1000000000000001, 1000000),
		"third":           num(1, 3),
		"ten millionth":   num(1, 10000000),
		"128th":           num(1, 128),
		"num name":        {Op: "num", Num: api.Rat{Num: 1, Den: 1}, Name: "a"},
		"num args":        {Op: "num", Num: api.Rat{Num: 1, Den: 1}, Args: []api.Expr{a, a}},
		"name empty":      name(""),
		"name min":        name("min"),
		"name max":        name("max"),
		"name digit":      name("1a"),
		"name blank":      name("a b"),
		"name underscore": name("_a"),
		"name long":       name(strings.Repeat("a", 31)),
		"name letter":     name("é"),
		"name num":        {Op: "name", Name: "a", Num: api.Rat{Num: 0, Den: 1}},
		"name args":       {Op: "name", Name: "a", Args: []api.Expr{a}},
		"no args":         {Op: "+"},
		"one arg":         {Op: "-", Args: []api.Expr{a}},
		"three args":      {Op: "min", Args: []api.Expr{a, a, a}},
		"op name":         {Op: "+", Name: "a", Args: []api.Expr{a, a}},
		"op num":          {Op: "/", Num: api.Rat{Num: 0, Den: 1}, Args: []api.Expr{a, a}},
		"first wrong":     apply("+", nothing, a),
		"second wrong":    apply("+", a, num(1, 3)),
		"deep wrong":      apply("max", apply("*", a, name("min")), a),
		"depth 13":        tower(13),
		"depth 100000":    tower(100000),
		"61 parts":        parts61,
		"shared":          shared,
		"loop":            loop[1],
		"wide":            {Op: "+", Args: make([]api.Expr, 1<<16)},
	}
}

// P2.4: the empty string for expressions that are not right.
func TestPrintFormulaWrong(t *testing.T) {
	for why, e := range wrongExprs() {
		if got := text.PrintFormula(e); got != "" {
			t.Errorf("PrintFormula of a wrong expression (%s): %.200q", why, got)
		}
	}
	for _, e := range []api.Expr{
		tower(12), name(strings.Repeat("a", 30)),
		{Op: "num", Num: api.Rat{Num: 1, Den: 1}, Args: []api.Expr{}},
		apply("+", apply("+", tower(10), tower(10)), tower(10)), // 59 parts
	} {
		if text.PrintFormula(e) == "" {
			t.Errorf("PrintFormula of a right expression is empty: %v", e)
		}
	}
}
