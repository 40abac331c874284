package types

import (
	"iter"
	"slices"

	"probity/api"
)

// partsOf returns the parts of a right expression in order: arguments come before what they are arguments of.
func partsOf(e api.Expr) iter.Seq[api.Expr] {
	return func(yield func(api.Expr) bool) { visitParts(e, yield) }
}

// visitParts reports whether all parts were visited. It may call itself, because right expressions are not deep.
func visitParts(e api.Expr, visit func(api.Expr) bool) bool {
	for _, argument := range e.Args {
		if !visitParts(argument, visit) {
			return false
		}
	}
	return visit(e)
}

// reading says what parts of an expression mean: those without arguments, and the operators.
type reading[T any] struct {
	leaf      func(part api.Expr) (T, api.Errno)
	operators map[string]func(a, b T) (T, api.Errno)
}

// read returns what a right expression means, or the first error of its parts.
func (r reading[T]) read(e api.Expr) (T, api.Errno) {
	var read []T // what the parts mean that are arguments of later ones
	for part := range partsOf(e) {
		arguments := len(read) - len(part.Args)
		meaning, err := r.meaning(part, read[arguments:])
		if err != api.OK {
			var none T
			return none, err
		}
		read = append(read[:arguments], meaning)
	}
	return read[0], api.OK
}

func (r reading[T]) meaning(part api.Expr, arguments []T) (T, api.Errno) {
	if len(arguments) == 0 {
		return r.leaf(part)
	}
	return r.operators[part.Op](arguments[0], arguments[1])
}

// isPrice reports whether a name means a price. It does so even if a criterion of a tender that is not right has this name.
func isPrice(name string) bool { return name == "price" || name == "low" }

// criterionNamed returns the first criterion with the name.
func criterionNamed(t api.Tender, name string) (api.Criterion, bool) {
	i := slices.IndexFunc(t.Criteria, func(c api.Criterion) bool { return c.Name == name })
	if i < 0 {
		return api.Criterion{}, false
	}
	return t.Criteria[i], true
}
