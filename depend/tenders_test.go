package depend_test

import (
	"slices"
	"strings"
	"testing"

	"probity/api"
	"probity/text"
)

// chairsText is a tender in which every kind of clause occurs.
const chairsText = `tender Chairs
lot 1 most 500
lot 2 most 400
lot 7 most 300
criterion comfort grade 0 10
criterion speed offer 1 5 less
criterion weight offer 3 9
require speed <= 4
require weight >= 5
require speed >= 2
price 1 500
formula 0.6 * low / price + 0.04 * comfort
tie weight price comfort
most 2
combo 1 2
combo 7 2
budget 900
times 10 20 30 40 5
`

// chairs returns a new tender with the text above.
func chairs(t *testing.T) api.Tender {
	t.Helper()
	x, at, err := text.Parse(chairsText)
	if err != api.OK {
		t.Fatalf("Parse: error %d at %d", err, at)
	}
	return x
}

func formula(t *testing.T, s string) api.Expr {
	t.Helper()
	e, at, err := text.Formula(s)
	if err != api.OK {
		t.Fatalf("Formula(%q): error %d at %d", s, err, at)
	}
	return e
}

func name(s string) api.Expr { return api.Expr{Op: "name", Name: s} }

func num(n, d int) api.Expr { return api.Expr{Op: "num", Num: api.Rat{Num: n, Den: d}} }

func apply(op string, a, b api.Expr) api.Expr {
	return api.Expr{Op: op, Args: []api.Expr{a, b}}
}

// list returns what stands between commas; nothing, if there is nothing.
func list(s string) []string {
	if s == "" {
		return nil
	}
	return strings.Split(s, ", ")
}

func checkList(t *testing.T, why string, got []string, want string) {
	t.Helper()
	if !slices.Equal(got, list(want)) {
		t.Errorf("%s: %q, want %q", why, got, list(want))
	}
}

// edit changes a tender.
type edit struct {
	why    string
	change func(x *api.Tender)
}

// edited returns the tender above after some edits.
func edited(t *testing.T, edits ...edit) api.Tender {
	t.Helper()
	x := chairs(t)
	for _, e := range edits {
		e.change(&x)
	}
	return x
}

// tower returns a formula that is as deep as it has levels.
func tower(levels int, innermost api.Expr) api.Expr {
	e := innermost
	for range levels {
		e = apply("+", e, num(1, 1))
	}
	return e
}

// sharing returns a formula in which each part is both arguments of the one around it.
func sharing(levels int, innermost api.Expr) api.Expr {
	e := innermost
	for range levels {
		e = apply("+", e, e)
	}
	return e
}

// looping returns a formula that contains itself, after so many parts.
func looping(length int) api.Expr {
	first := []api.Expr{{Op: "+"}}
	last := first
	for range length - 1 {
		last[0].Args = []api.Expr{{Op: "+"}}
		last = last[0].Args
	}
	last[0].Args = first
	return first[0]
}
