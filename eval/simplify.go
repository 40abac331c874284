package eval

import "probity/api"

// simplified returns a right formula, which becomes its own, with the values of operations on numbers in their place.
func simplified(e api.Expr) api.Expr {
	if len(e.Args) == 0 {
		return e
	}
	a, b := simplified(e.Args[0]), simplified(e.Args[1])
	if a.Op == "num" && b.Op == "num" {
		number := api.Expr{Op: "num"}
		if err := caught(func() { number.Num = applied(e.Op, a.Num, b.Num) }); err == api.OK {
			return number
		}
	}
	e.Args[0], e.Args[1] = a, b
	return e
}
