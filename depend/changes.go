package depend

import "slices"

// namesOfBoth returns the clauses of two tenders: those of the new one, then those that only the old one has.
func namesOfBoth(old, next []clause) []string {
	return firsts(slices.Concat(namesOf(next), namesOf(old)), itself)
}

// changed returns the clauses that only one tender has, or whose contents differ, in order.
func changed(old, next []clause) []string {
	before, after := byName(old), byName(next)
	return found(namesOfBoth(old, next), func(name string) bool {
		was, is := before[name], after[name]
		return was == nil || is == nil || !equalContents(was.content, is.content)
	})
}

func byName(clauses []clause) map[string]*clause {
	index := map[string]*clause{}
	for i, c := range clauses {
		index[c.name] = &clauses[i]
	}
	return index
}

// addUsers adds to the clauses that are affected those that use one of them, directly or through others.
func addUsers(affected map[string]bool, clauses []clause) {
	isAffected := func(name string) bool { return affected[name] }
	for isGrowing := true; isGrowing; {
		size := len(affected)
		for _, c := range clauses {
			if slices.ContainsFunc(c.uses, isAffected) {
				affected[c.name] = true
			}
		}
		isGrowing = len(affected) > size
	}
}
