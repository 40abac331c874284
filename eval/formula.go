package eval

import (
	"slices"

	"probity/api"
	"probity/ratio"
)

// requireRight fails for formulas that are too large, and for those that are not well formed.
func requireRight(e api.Expr) {
	require(!isTooLarge(e), api.ErrMany)
	require(isWellFormed(e), api.ErrArg)
}

// isTooLarge ends at the first part beyond a limit, because a formula can have more parts than could ever be counted: lists of arguments can share memory, and even contain themselves.
func isTooLarge(e api.Expr) bool {
	parts := 0
	var exceeds func(e api.Expr, depth int) bool
	exceeds = func(e api.Expr, depth int) bool {
		parts++
		return parts > api.MaxFormula || depth > api.MaxDepth ||
			slices.ContainsFunc(e.Args, func(argument api.Expr) bool { return exceeds(argument, depth+1) })
	}
	return exceeds(e, 1)
}

// isWellFormed may call itself, because formulas that are not too large are not deep.
func isWellFormed(e api.Expr) bool {
	switch e.Op {
	case "num":
		return ratio.Right(e.Num) && e.Name == "" && len(e.Args) == 0
	case "name":
		return e.Name != "" && e.Num == (api.Rat{}) && len(e.Args) == 0
	}
	_, known := operationOf(e.Op)
	return known && e.Name == "" && e.Num == (api.Rat{}) &&
		len(e.Args) == 2 && isWellFormed(e.Args[0]) && isWellFormed(e.Args[1])
}

// valueOf returns the value of a right formula, or fails with the first error of its parts.
func valueOf(e api.Expr, values []api.Value) api.Rat {
	switch e.Op {
	case "num":
		return e.Num
	case "name":
		return namedValue(e.Name, values)
	}
	first := valueOf(e.Args[0], values)
	second := valueOf(e.Args[1], values)
	return applied(e.Op, first, second)
}

func namedValue(name string, values []api.Value) api.Rat {
	i := slices.IndexFunc(values, func(v api.Value) bool { return v.Name == name })
	require(i >= 0, api.ErrName)
	return ratio.Of(values[i].N)
}
