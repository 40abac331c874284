package copies

import (
	"math"
	"slices"
	"strings"

	"probity/api"
)

// Beyond these limits of the document nothing is promised about a formula, but that its copy ends.
const (
	mostParts   = math.MaxInt32 / bytesOfPart
	mostLevels  = 1 << 16
	bytesOfPart = 72 // of one api.Expr
)

// Formula returns any formula in new memory.
func Formula(e api.Expr) api.Expr {
	whole := []api.Expr{e}
	c := copier{
		work:   [][]api.Expr{whole},
		isVast: sizes{}.partsOf(whole, 1) > mostParts,
		copies: map[list][]api.Expr{},
	}
	for len(c.work) > 0 {
		c.copyNext()
	}
	return whole[0]
}

// copier keeps a list of its work instead of calling itself, because formulas that are not right can be nested to any depth.
type copier struct {
	work   [][]api.Expr        // new lists whose parts are still the old ones
	isVast bool                // the parts could not all be written out: lists that occur several times are copied once
	copies map[list][]api.Expr // of a vast formula only
}

func (c *copier) copyNext() {
	parts := c.work[len(c.work)-1]
	c.work = c.work[:len(c.work)-1]
	for i, part := range parts {
		parts[i] = api.Expr{Op: strings.Clone(part.Op), Num: part.Num, Name: strings.Clone(part.Name), Args: c.begun(part.Args)}
	}
}

// begun returns a new list, whose parts are copied later, if they are not yet.
func (c *copier) begun(args []api.Expr) []api.Expr {
	if len(args) == 0 {
		return nil
	}
	if copied, known := c.copies[listOf(args)]; known {
		return copied
	}
	copied := slices.Clone(args)
	c.work = append(c.work, copied)
	if c.isVast {
		c.copies[listOf(args)] = copied
	}
	return copied
}

// list tells lists of arguments apart by where they lie in memory: they can share it, and even contain themselves.
type list struct {
	first  *api.Expr
	length int
}

// listOf is called for lists with elements only.
func listOf(args []api.Expr) list { return list{&args[0], len(args)} }

// sizes says how many parts there are in lists of arguments, at most mostParts + 1.
type sizes map[list]int

// partsOf returns the number of parts in a list of arguments that stands on this level of a formula.
func (s sizes) partsOf(args []api.Expr, level int) int {
	if len(args) == 0 {
		return 0
	}
	size, known := s[listOf(args)]
	if known {
		return size
	}
	if level > mostLevels {
		return mostParts + 1
	}
	// This is what a list finds that contains itself.
	s[listOf(args)] = mostParts + 1
	size = len(args)
	for _, part := range args {
		size = min(size+s.partsOf(part.Args, level+1), mostParts+1)
	}
	s[listOf(args)] = size
	return size
}
