package score

import (
	"cmp"

	"probity/api"
	"probity/ratio"
)

// contender is an entry with its points, and the first value of each name.
type contender struct {
	bidder, price, receipt int
	points                 api.Rat
	values                 map[string]int
}

func contenderOf(x api.Entry, points api.Rat) contender {
	c := contender{x.Bidder, x.Price, x.Receipt, points, map[string]int{}}
	for _, v := range x.Values {
		if _, known := c.values[v.Name]; !known {
			c.values[v.Name] = v.N
		}
	}
	return c
}

// difference is negative if it is in favour of a, positive if it is in favour of b, and 0 if there is none.
type difference func(a, b contender) int

// order is the differences that decide, the first one first.
type order []difference

func (o order) compare(a, b contender) int {
	for _, differ := range o {
		if d := differ(a, b); d != 0 {
			return d
		}
	}
	return 0
}

// orderOf returns the order of points, then of the tender's ties, at last of receipts.
func orderOf(t api.Tender) order {
	o := order{func(a, b contender) int { return ratio.Cmp(b.points, a.points) }}
	smallerIsBetter := smallerIsBetterByName(t.Criteria)
	used := map[string]bool{}
	for _, name := range t.Ties {
		// A name that has not decided once does not decide later.
		if used[name] {
			continue
		}
		used[name] = true
		less, known := smallerIsBetter[name]
		switch {
		case name == "price":
			o = append(o, func(a, b contender) int { return cmp.Compare(a.price, b.price) })
		case known:
			o = append(o, valueDifference(name, less))
		}
	}
	return append(o, func(a, b contender) int { return cmp.Compare(a.receipt, b.receipt) })
}

// smallerIsBetterByName returns for each name of a criterion whether the first one with this name has Less set.
func smallerIsBetterByName(criteria []api.Criterion) map[string]bool {
	byName := map[string]bool{}
	for _, c := range criteria {
		if _, known := byName[c.Name]; !known {
			byName[c.Name] = c.Less
		}
	}
	return byName
}

// valueDifference returns the difference of the values with a name, of which smaller or greater ones are better.
func valueDifference(name string, smallerIsBetter bool) difference {
	return func(a, b contender) int {
		m, hasFirst := a.values[name]
		n, hasSecond := b.values[name]
		if !hasFirst || !hasSecond {
			return 0
		}
		if smallerIsBetter {
			return cmp.Compare(m, n)
		}
		return cmp.Compare(n, m)
	}
}
