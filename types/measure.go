package types

import (
	"strconv"

	"probity/api"
)

// measure is what the unit of an expression depends on: the power of its part, and whether this part is a number, which takes on the unit of what it stands beside.
type measure struct {
	power    int
	isNumber bool
}

func (m measure) unit() string {
	switch m.power {
	case 0:
		return ""
	case 1:
		return "money"
	}
	return "money^" + strconv.Itoa(m.power)
}

func measureOf(t api.Tender, e api.Expr) (measure, api.Errno) {
	leaf := func(part api.Expr) (measure, api.Errno) { return leafMeasure(t, part) }
	return reading[measure]{leaf, measureOperators()}.read(e)
}

func leafMeasure(t api.Tender, part api.Expr) (measure, api.Errno) {
	if part.Op == "num" {
		return measure{isNumber: true}, api.OK
	}
	if isPrice(part.Name) {
		return measure{power: 1}, api.OK
	}
	if _, known := criterionNamed(t, part.Name); !known {
		return measure{}, api.ErrName
	}
	return measure{}, api.OK
}

func measureOperators() map[string]func(a, b measure) (measure, api.Errno) {
	return map[string]func(a, b measure) (measure, api.Errno){
		"+": common, "-": common, "min": common, "max": common,
		"*": func(a, b measure) (measure, api.Errno) {
			return measure{power: a.power + b.power}, api.OK
		},
		"/": func(a, b measure) (measure, api.Errno) {
			if a.power == 1 && b.isNumber {
				return measure{}, api.OK
			}
			return measure{power: a.power - b.power}, api.OK
		},
	}
}

// common is the measure of operators whose arguments need the same unit.
func common(a, b measure) (measure, api.Errno) {
	if a.isNumber {
		return measure{power: b.power}, api.OK
	}
	if !b.isNumber && a.power != b.power {
		return measure{}, api.ErrUnit
	}
	return measure{power: a.power}, api.OK
}
