package text

import (
	"strconv"
	"strings"

	"probity/api"
	"probity/ratio"
)

// formulaReader reads the rest of a line as a formula. It keeps stacks instead of calling itself, because parentheses may be nested to any depth.
type formulaReader struct {
	scanner
	operands []operand // what no operation has been applied to yet
	pending  []pending // what has begun before the next operand, and is not complete
}

// operand is a part of a formula that has been read. Of one that is too large only the size is kept, so that the memory for a formula has a bound.
type operand struct {
	expr         api.Expr
	parts, depth int
}

// pending is an operator that waits for its second argument, or an opening (of parentheses, min or max), which waits for the token end.
type pending struct {
	op  string
	end string
}

// read reads up to the end of the line.
func (f *formulaReader) read() api.Expr {
	f.skipBlanks()
	first := token{at: f.at}
	f.readOperand()
	for f.readOperator() {
		f.readOperand()
	}
	whole := f.operands[0]
	first.require(!whole.isTooLarge(), api.ErrMany)
	return whole.expr
}

// readOperand reads any openings, and then a decimal or a name.
func (f *formulaReader) readOperand() {
	for {
		t := f.next()
		switch t.text {
		case "(":
			f.pending = append(f.pending, pending{op: "(", end: ")"})
		case "min", "max":
			parenthesis := f.next()
			parenthesis.require(parenthesis.text == "(", api.ErrToken)
			f.pending = append(f.pending, pending{op: t.kept(), end: ","})
		default:
			f.operands = append(f.operands, operand{t.leaf(), 1, 1})
			return
		}
	}
}

// readOperator reads any closing parentheses, and then an operator or a comma, and returns true; or the end of the line, and returns false.
func (f *formulaReader) readOperator() bool {
	for {
		t := f.next()
		switch t.text {
		case "+", "-", "*", "/":
			f.applyOperators(strength(t.text))
			f.pending = append(f.pending, pending{op: t.kept()})
			return true
		case ",":
			f.opening(t).end = ")"
			return true
		case ")":
			f.close(t)
		default:
			f.applyOperators(1)
			t.require(t.text == "" && len(f.pending) == 0, api.ErrToken)
			return false
		}
	}
}

// opening completes the operators since the last opening, and returns this one, which t has to end.
func (f *formulaReader) opening(t token) *pending {
	f.applyOperators(1)
	t.require(len(f.pending) > 0, api.ErrToken)
	last := &f.pending[len(f.pending)-1]
	t.require(last.end == t.text, api.ErrToken)
	return last
}

func (f *formulaReader) close(t token) {
	if f.opening(t).op == "(" {
		f.pending = f.pending[:len(f.pending)-1]
		return
	}
	f.applyLast()
}

// applyOperators applies the last operators, as far as they bind at least so strongly.
func (f *formulaReader) applyOperators(atLeast int) {
	for len(f.pending) > 0 && strength(f.pending[len(f.pending)-1].op) >= atLeast {
		f.applyLast()
	}
}

// strength says how strongly an operator binds: 0 for openings, which no operator reaches across.
func strength(op string) int {
	switch op {
	case "+", "-":
		return 1
	case "*", "/":
		return 2
	}
	return 0
}

// applyLast applies the last pending operation to the last two operands.
func (f *formulaReader) applyLast() {
	op := f.pending[len(f.pending)-1].op
	f.pending = f.pending[:len(f.pending)-1]
	second := len(f.operands) - 1
	first := second - 1
	f.operands[first] = operation(op, f.operands[first], f.operands[second])
	f.operands = f.operands[:second]
}

func operation(op string, a, b operand) operand {
	whole := operand{parts: a.parts + b.parts + 1, depth: max(a.depth, b.depth) + 1}
	if !whole.isTooLarge() {
		whole.expr = api.Expr{Op: op, Args: []api.Expr{a.expr, b.expr}}
	}
	return whole
}

func (o operand) isTooLarge() bool { return o.parts > api.MaxFormula || o.depth > api.MaxDepth }

func (f *formulaReader) next() token { return f.take(formulaTokenLength) }

// formulaTokenLength returns the length of the longest token at the beginning of rest.
func formulaTokenLength(rest string) int {
	switch {
	case rest == "":
		return 0
	case isLetter(rest[0]):
		return prefixLength(rest, isInName)
	case isDigit(rest[0]):
		return decimalLength(rest)
	}
	return 1
}

func decimalLength(rest string) int {
	whole := prefixLength(rest, isDigit)
	if !strings.HasPrefix(rest[whole:], ".") {
		return whole
	}
	places := prefixLength(rest[whole+1:], isDigit)
	if places == 0 {
		return whole
	}
	return whole + 1 + places
}

// leaf returns the part that a name or a decimal means.
func (t token) leaf() api.Expr {
	if isVariable(t.text) {
		return api.Expr{Op: "name", Name: t.kept()}
	}
	return api.Expr{Op: "num", Num: t.decimal()}
}

const (
	mostPlaces = 6
	million    = 1000000 // 10 to the power of mostPlaces
)

func (t token) decimal() api.Rat {
	whole, places, _ := strings.Cut(t.text, ".")
	t.require(isNumber(whole) && !strings.HasSuffix(places, "0"), api.ErrToken)
	n, fits := numberUpToMost(whole)
	t.require(fits && len(places) <= mostPlaces, api.ErrRange)
	millionths, _ := strconv.Atoi((places + "000000")[:mostPlaces])
	value, _ := ratio.Make(n*million+millionths, million)
	t.require(isUpToMost(value), api.ErrRange)
	return value
}

func isUpToMost(a api.Rat) bool { return ratio.Cmp(a, ratio.Of(api.MaxNumber)) <= 0 }
