package text

import (
	"strconv"
	"strings"

	"probity/api"
)

// printer collects the lines of a text.
type printer struct{ text strings.Builder }

func (p *printer) line(tokens ...string) {
	p.text.WriteString(strings.Join(tokens, " "))
	p.text.WriteByte('\n')
}

// tenderText returns the text of a tender whose parts are right.
func tenderText(t api.Tender) string {
	var p printer
	p.line("tender", t.Name)
	for _, l := range t.Lots {
		p.line("lot", strconv.Itoa(l.Id), "most", strconv.Itoa(l.Most))
	}
	for _, c := range t.Criteria {
		p.line(criterionTokens(c)...)
	}
	for _, r := range t.Requires {
		p.line("require", r.Name, r.Rel, strconv.Itoa(r.Value))
	}
	p.line(withNumbers("price", t.Low, t.High)...)
	p.line("formula", exprText(t.Formula))
	if len(t.Ties) > 0 {
		p.line("tie", strings.Join(t.Ties, " "))
	}
	if t.Most != 0 {
		p.line(withNumbers("most", t.Most)...)
	}
	for _, lots := range t.Combos {
		p.line(withNumbers("combo", lots...)...)
	}
	p.line(withNumbers("budget", t.Budget)...)
	p.line(withNumbers("times", t.Times.Questions, t.Times.Bids, t.Times.Grades, t.Times.Prices, t.Times.Still)...)
	return p.text.String()
}

func criterionTokens(c api.Criterion) []string {
	kind := "grade"
	if c.Kind == api.KindOffer {
		kind = "offer"
	}
	tokens := []string{"criterion", c.Name, kind, strconv.Itoa(c.Low), strconv.Itoa(c.High)}
	if c.Less {
		tokens = append(tokens, "less")
	}
	return tokens
}

func withNumbers(word string, numbers ...int) []string {
	tokens := []string{word}
	for _, n := range numbers {
		tokens = append(tokens, strconv.Itoa(n))
	}
	return tokens
}

// exprText returns the text of a right expression.
func exprText(e api.Expr) string {
	switch e.Op {
	case "num":
		return decimalText(e.Num)
	case "name":
		return strings.Clone(e.Name)
	case "min", "max":
		return e.Op + "(" + exprText(e.Args[0]) + ", " + exprText(e.Args[1]) + ")"
	}
	return argumentText(e, 0) + " " + e.Op + " " + argumentText(e, 1)
}

// argumentText returns the text of an argument of an operator, in parentheses where it would be read otherwise without them.
func argumentText(e api.Expr, place int) string {
	argument := e.Args[place]
	text := exprText(argument)
	inner, outer := strength(argument.Op), strength(e.Op)
	if inner != 0 && (inner < outer || inner == outer && place == 1) {
		return "(" + text + ")"
	}
	return text
}

// decimalText returns the decimal of a right number, of which a million times is an int.
func decimalText(a api.Rat) string {
	millionths := a.Num * (million / a.Den)
	whole := strconv.Itoa(millionths / million)
	places := strings.TrimRight(strconv.Itoa(million + millionths%million)[1:], "0")
	if places == "" {
		return whole
	}
	return whole + "." + places
}
