package tree

import "probity/api"

// mostDoublings is how often 1 can be doubled so that the result is an int.
const mostDoublings = 62

// part is a part of a list: the strings from one number to before another one. Of the two halves of a part, one is the first.
type part struct {
	from, to int
	first    bool
}

// joined returns the node of the root of p and that of the other half.
func (p part) joined(root, other api.Hash) api.Hash {
	if p.first {
		return Node(root, other)
	}
	return Node(other, root)
}

// way leads from a list down to a part of it, from each part to one of its halves.
type way struct {
	end    part
	beside []part // the halves that it leaves aside, in the order of a proof: the last one first
}

// endIsWhole reports whether the way ends at a beginning of the list, which has the mark "whole".
func (w way) endIsWhole() bool { return w.end.from == 0 }

// growthLength returns how many hashes a growth along the way has: the root of its end is only written where it is not known.
func (w way) growthLength() int {
	if w.endIsWhole() {
		return len(w.beside)
	}
	return len(w.beside) + 1
}

// wayToString returns the way to the part that consists of string n.
func wayToString(size, n int) way {
	return wayDown(size, n, func(p part) bool { return p.to-p.from == 1 })
}

// wayToBeginning returns the way to the part that the first m strings fill up to its end: it contains the last one of them, and nothing behind it.
func wayToBeginning(size, m int) way {
	return wayDown(size, m-1, func(p part) bool { return p.to == m })
}

// wayDown returns the way to the greatest part that contains string n and is an end. The part of string n alone has to be one, if no other is.
func wayDown(size, n int, isEnd func(part) bool) way {
	var w way
	var walk func(p part)
	walk = func(p part) {
		if isEnd(p) {
			w.end = p
			return
		}
		middle := p.from + half(p.to-p.from)
		first, others := part{p.from, middle, true}, part{middle, p.to, false}
		if n < middle {
			walk(first)
			w.beside = append(w.beside, others)
		} else {
			walk(others)
			w.beside = append(w.beside, first)
		}
	}
	walk(part{from: 0, to: size})
	return w
}

// half returns the greatest power of 2 that is less than size, which is at least 2.
func half(size int) int {
	k := 1
	for range mostDoublings {
		// Not 2*k >= size, as the double may not fit.
		if k >= size-k {
			break
		}
		k *= 2
	}
	return k
}
