package depend

// found returns the elements that are looked for, in their order.
func found[T any](list []T, isLookedFor func(T) bool) []T {
	var elements []T
	for _, x := range list {
		if isLookedFor(x) {
			elements = append(elements, x)
		}
	}
	return elements
}

// firsts returns, for each key, the first element that has it, in their order.
func firsts[T any, K comparable](list []T, key func(T) K) []T {
	seen := map[K]bool{}
	return found(list, func(x T) bool {
		k := key(x)
		isFirst := !seen[k]
		seen[k] = true
		return isFirst
	})
}

func each[T, R any](list []T, result func(T) R) []R {
	results := make([]R, len(list))
	for i, x := range list {
		results[i] = result(x)
	}
	return results
}

func setOf[T comparable](list []T) map[T]bool {
	set := map[T]bool{}
	for _, x := range list {
		set[x] = true
	}
	return set
}

func itself[T any](x T) T { return x }
