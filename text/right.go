package text

import (
	"slices"

	"probity/api"
	"probity/ratio"
)

// rightParts reports whether a tender is right, if its text is not too long.
func rightParts(t api.Tender) bool {
	return isName(t.Name) &&
		rightLots(t.Lots) &&
		rightCriteria(t.Criteria) &&
		rightRequires(t.Requires) &&
		rightExpr(t.Formula) &&
		rightTies(t.Ties) &&
		rightCombos(t.Combos) &&
		areNumbers(t.Low, t.High, t.Most, t.Budget) &&
		areNumbers(t.Times.Questions, t.Times.Bids, t.Times.Grades, t.Times.Prices, t.Times.Still)
}

func isInRange(n int) bool { return 0 <= n && n <= api.MaxNumber }

func areNumbers(numbers ...int) bool {
	for _, n := range numbers {
		if !isInRange(n) {
			return false
		}
	}
	return true
}

func isLotNumber(n int) bool { return n != 0 && isInRange(n) }

func rightLots(lots []api.Lot) bool {
	id := func(l api.Lot) int { return l.Id }
	right := func(l api.Lot) bool { return isLotNumber(l.Id) && isInRange(l.Most) }
	return len(lots) >= 1 && isListOf(lots, api.MaxLots, right) && areDifferent(lots, id)
}

func rightCriteria(criteria []api.Criterion) bool {
	name := func(c api.Criterion) string { return c.Name }
	right := func(c api.Criterion) bool {
		return isWord(c.Name) && (c.Kind == api.KindGrade || c.Kind == api.KindOffer) && areNumbers(c.Low, c.High)
	}
	return isListOf(criteria, api.MaxCriteria, right) && areDifferent(criteria, name)
}

func rightRequires(requires []api.Require) bool {
	return isListOf(requires, mostRequires, func(r api.Require) bool {
		return isWord(r.Name) && (r.Rel == "<=" || r.Rel == ">=") && isInRange(r.Value)
	})
}

func rightTies(ties []string) bool {
	return isListOf(ties, mostTies, isTie) && areDifferent(ties, itself)
}

func rightCombos(combos [][]int) bool {
	return isListOf(combos, mostCombos, func(lots []int) bool {
		return len(lots) >= leastInCombo && isListOf(lots, mostInCombo, isLotNumber) && areDifferent(lots, itself)
	})
}

func itself[T any](x T) T { return x }

// isListOf reports whether the list has at most so many elements, all of them right.
func isListOf[T any](list []T, most int, right func(T) bool) bool {
	if len(list) > most {
		return false
	}
	return !slices.ContainsFunc(list, func(x T) bool { return !right(x) })
}

func areDifferent[T any, K comparable](list []T, key func(T) K) bool {
	seen := map[K]bool{}
	for _, x := range list {
		seen[key(x)] = true
	}
	return len(seen) == len(list)
}

// rightExpr counts the parts on the way, because an expression can have more of them than memory would hold: lists of arguments can share memory.
func rightExpr(e api.Expr) bool {
	parts := 0
	var right func(e api.Expr, depth int) bool
	right = func(e api.Expr, depth int) bool {
		parts++
		if parts > api.MaxFormula || depth > api.MaxDepth {
			return false
		}
		switch e.Op {
		case "num":
			return rightNum(e.Num) && e.Name == "" && len(e.Args) == 0
		case "name":
			return isVariable(e.Name) && e.Num == (api.Rat{}) && len(e.Args) == 0
		case "+", "-", "*", "/", "min", "max":
			return e.Name == "" && e.Num == (api.Rat{}) && len(e.Args) == 2 && right(e.Args[0], depth+1) && right(e.Args[1], depth+1)
		}
		return false
	}
	return right(e, 1)
}

func rightNum(a api.Rat) bool {
	return ratio.Right(a) && a.Num >= 0 && isUpToMost(a) && million%a.Den == 0
}

// equalExprs walks over pairs of lists of arguments instead of calling itself, and over each pair once: lists can be nested to any depth, share memory, and even contain themselves.
func equalExprs(a, b api.Expr) bool {
	type lists struct{ a, b []api.Expr }
	type place struct {
		a, b   *api.Expr
		length int
	}
	seen := map[place]bool{}
	work := []lists{{[]api.Expr{a}, []api.Expr{b}}}
	for len(work) > 0 {
		next := work[len(work)-1]
		work = work[:len(work)-1]
		if !slices.EqualFunc(next.a, next.b, equalButArgs) {
			return false
		}
		for i, x := range next.a {
			y := next.b[i]
			if len(x.Args) == 0 && len(y.Args) == 0 {
				continue
			}
			if len(x.Args) != len(y.Args) {
				return false
			}
			at := place{&x.Args[0], &y.Args[0], len(x.Args)}
			if !seen[at] {
				seen[at] = true
				work = append(work, lists{x.Args, y.Args})
			}
		}
	}
	return true
}

func equalButArgs(a, b api.Expr) bool {
	return a.Op == b.Op && a.Num == b.Num && a.Name == b.Name
}
