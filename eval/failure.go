package eval

import "probity/api"

// failure is what a computation panics with: the first error ends it.
type failure struct{ kind api.Errno }

// require ends the computation with an error of this kind, unless the condition holds.
func require(condition bool, kind api.Errno) {
	if !condition {
		panic(failure{kind})
	}
}

// caught returns the error that ended the computation; OK, if it came to its end.
func caught(compute func()) (kind api.Errno) {
	defer func() {
		problem := recover()
		if problem == nil {
			return
		}
		failed, known := problem.(failure)
		if !known {
			// Nothing that a faulty computation has found may count as correct.
			failed = failure{api.ErrArg}
		}
		kind = failed.kind
	}()
	compute()
	return api.OK
}
