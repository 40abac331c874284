package prove

import (
	"iter"

	"probity/api"
)

// grid is what a search tries: some numbers for each name, and for low.
type grid struct {
	rules    rules
	numbers  [][]int
	lows     []int
	complete bool // it is enough for a proof
}

// gridFor returns the largest grid that can be searched with this work, if each name gets its share of it.
func (r rules) gridFor(claim, work int) grid {
	counts, enough := make([]int, len(r.names)), make([]int, len(r.names))
	for i, n := range r.names {
		counts[i], enough[i] = 1, r.enough(claim, n)
	}
	for r.grow(counts, enough, work) {
	}
	g := grid{rules: r, complete: true}
	for i, n := range r.names {
		g.numbers = append(g.numbers, spread(n, counts[i]))
		g.complete = g.complete && counts[i] == enough[i]
	}
	g.lows = g.numbers[0]
	if r.ignoresLow() {
		g.lows = g.lows[:1]
	}
	return g
}

// enough returns how many numbers for a name have to be tried for a proof: all, if it changes the points; otherwise two, if the claim is about entries that differ in this name alone; otherwise one.
func (r rules) enough(claim int, n name) int {
	switch {
	case r.changesPoints(n):
		return n.count()
	case claim == decided && !n.tied:
		return min(n.count(), 2)
	}
	return 1
}

// changesPoints counts low as the price, because the prices of entries limit which numbers low are possible.
func (r rules) changesPoints(n name) bool {
	return r.occurs(n.text) || n.text == "price" && r.occurs("low")
}

// grow adds one number to each name for which this is possible, and reports whether it was for any.
func (r rules) grow(counts, enough []int, work int) bool {
	grown := false
	for i, count := range counts {
		if count == enough[i] {
			continue
		}
		counts[i]++
		if r.stepsFor(counts) > work {
			counts[i]--
		} else {
			grown = true
		}
	}
	return grown
}

// stepsFor returns how much work a search is: all parts of the formula are evaluated for each entry and each number low, and the points are compared with those of each entry.
func (r rules) stepsFor(counts []int) int {
	entries := 1
	for _, count := range counts {
		entries *= count
	}
	lows := counts[0]
	if r.ignoresLow() {
		lows = 1
	}
	return entries * lows * (partsOf(r.tender.Formula) + entries)
}

func partsOf(e api.Expr) int {
	parts := 1
	for _, argument := range e.Args {
		parts += partsOf(argument)
	}
	return parts
}

// spread returns so many different numbers for a name: the least one, the greatest one, and those between them at nearly equal distances.
func spread(n name, count int) []int {
	numbers := []int{n.low}
	for i := 1; i < count; i++ {
		numbers = append(numbers, n.low+(n.count()-1)*i/(count-1))
	}
	return numbers
}

// entries yields the entries with all combinations of the numbers.
func (g grid) entries() iter.Seq[api.Entry] {
	return func(yield func(api.Entry) bool) {
		count := 1
		for _, numbers := range g.numbers {
			count *= len(numbers)
		}
		for i := range count {
			if !yield(g.entry(i)) {
				return
			}
		}
	}
}

// entry returns an entry by its number, whose digits are the places of its numbers.
func (g grid) entry(i int) api.Entry {
	digit := func(numbers []int) int {
		place := i % len(numbers)
		i /= len(numbers)
		return numbers[place]
	}
	x := api.Entry{Price: digit(g.numbers[0])}
	for place, c := range g.rules.tender.Criteria {
		x.Values = append(x.Values, api.Value{Name: c.Name, N: digit(g.numbers[place+1])})
	}
	return x
}
