package text

import (
	"slices"
	"strings"

	"probity/api"
)

// Limits that package api has no name for.
const (
	mostRequires = 24
	mostTies     = 12
	mostCombos   = 12
	mostInCombo  = 12
	leastInCombo = 2
)

// lineReader reads the lines of a tender one by one, each with a scanner of its own.
type lineReader struct {
	scanner
	tender api.Tender
}

// lineKind is what the first word of a line says of it.
type lineKind struct {
	read   func(*lineReader) // reads what follows the first word
	most   int               // how many lines of the kind are permitted
	beyond api.Errno         // the error of one line more
	needed bool
}

func lineKinds() map[string]lineKind {
	return map[string]lineKind{
		"tender":    {(*lineReader).readName, 1, api.ErrName, true},
		"lot":       {(*lineReader).readLot, api.MaxLots, api.ErrMany, true},
		"criterion": {(*lineReader).readCriterion, api.MaxCriteria, api.ErrMany, false},
		"require":   {(*lineReader).readRequire, mostRequires, api.ErrMany, false},
		"price":     {(*lineReader).readPrice, 1, api.ErrName, true},
		"formula":   {(*lineReader).readFormula, 1, api.ErrName, true},
		"tie":       {(*lineReader).readTies, 1, api.ErrName, false},
		"most":      {(*lineReader).readMost, 1, api.ErrName, false},
		"combo":     {(*lineReader).readCombo, mostCombos, api.ErrMany, false},
		"budget":    {(*lineReader).readBudget, 1, api.ErrName, true},
		"times":     {(*lineReader).readTimes, 1, api.ErrName, true},
	}
}

func readTender(text string) api.Tender {
	var r lineReader
	kinds, counts := lineKinds(), map[string]int{}
	start := 0
	for line := range strings.SplitSeq(text, "\n") {
		end := start + len(line)
		r.scanner = scanner{text: text[:end], at: start}
		if !r.atEnd() {
			counts[r.readLine(kinds, counts)]++
		}
		start = end + 1
	}
	endOfText := token{at: len(text)}
	for word, kind := range kinds {
		endOfText.require(!kind.needed || counts[word] > 0, api.ErrToken)
	}
	return r.tender
}

// readLine reads a line that has tokens, and returns its first word.
func (r *lineReader) readLine(kinds map[string]lineKind, counts map[string]int) string {
	first := r.next()
	kind, known := kinds[first.text]
	first.require(known, api.ErrToken)
	first.require(counts[first.text] < kind.most, kind.beyond)
	kind.read(r)
	end := r.next()
	end.require(end.text == "", api.ErrToken)
	return first.text
}

func (r *lineReader) next() token {
	return r.take(func(rest string) int {
		return prefixLength(rest, func(c byte) bool { return c != ' ' })
	})
}

// number reads a NUMBER, and returns its token for further errors.
func (r *lineReader) number() (int, token) {
	t := r.next()
	t.require(isNumber(t.text), api.ErrToken)
	n, fits := numberUpToMost(t.text)
	t.require(fits, api.ErrRange)
	return n, t
}

// plainNumber reads a NUMBER of which nothing else is required.
func (r *lineReader) plainNumber() int {
	n, _ := r.number()
	return n
}

// lotNumber reads a NUMBER other than 0.
func (r *lineReader) lotNumber() (int, token) {
	n, t := r.number()
	t.require(n != 0, api.ErrRange)
	return n, t
}

func (r *lineReader) word() token {
	t := r.next()
	t.require(isWord(t.text), api.ErrToken)
	return t
}

// oneOf reads one of the choices, and returns its number.
func (r *lineReader) oneOf(choices ...string) int {
	t := r.next()
	choice := slices.Index(choices, t.text)
	t.require(choice >= 0, api.ErrToken)
	return choice
}

func (r *lineReader) readName() {
	t := r.next()
	t.require(isName(t.text), api.ErrToken)
	r.tender.Name = t.kept()
}

func (r *lineReader) readLot() {
	id, at := r.lotNumber()
	known := slices.ContainsFunc(r.tender.Lots, func(l api.Lot) bool { return l.Id == id })
	at.require(!known, api.ErrName)
	r.oneOf("most")
	r.tender.Lots = append(r.tender.Lots, api.Lot{Id: id, Most: r.plainNumber()})
}

func (r *lineReader) readCriterion() {
	name := r.word()
	known := slices.ContainsFunc(r.tender.Criteria, func(c api.Criterion) bool { return c.Name == name.text })
	name.require(!known, api.ErrName)
	kinds := [...]int{api.KindGrade, api.KindOffer}
	criterion := api.Criterion{Name: name.kept(), Kind: kinds[r.oneOf("grade", "offer")]}
	criterion.Low = r.plainNumber()
	criterion.High = r.plainNumber()
	if !r.atEnd() {
		r.oneOf("less")
		criterion.Less = true
	}
	r.tender.Criteria = append(r.tender.Criteria, criterion)
}

func (r *lineReader) readRequire() {
	name := r.word()
	relations := [...]string{"<=", ">="}
	relation := relations[r.oneOf(relations[:]...)]
	r.tender.Requires = append(r.tender.Requires, api.Require{Name: name.kept(), Rel: relation, Value: r.plainNumber()})
}

func (r *lineReader) readPrice() {
	r.tender.Low = r.plainNumber()
	r.tender.High = r.plainNumber()
}

func (r *lineReader) readFormula() {
	reader := formulaReader{scanner: r.scanner}
	r.tender.Formula = reader.read()
	r.scanner = reader.scanner
}

func (r *lineReader) readTies() {
	for len(r.tender.Ties) == 0 || !r.atEnd() {
		t := r.next()
		t.require(isTie(t.text), api.ErrToken)
		t.require(!slices.Contains(r.tender.Ties, t.text), api.ErrName)
		t.require(len(r.tender.Ties) < mostTies, api.ErrMany)
		r.tender.Ties = append(r.tender.Ties, t.kept())
	}
}

func isTie(s string) bool { return s == "price" || isWord(s) }

func (r *lineReader) readMost() {
	r.tender.Most = r.plainNumber()
}

func (r *lineReader) readCombo() {
	var lots []int
	for len(lots) < leastInCombo || !r.atEnd() {
		lot, at := r.lotNumber()
		at.require(!slices.Contains(lots, lot), api.ErrName)
		at.require(len(lots) < mostInCombo, api.ErrMany)
		lots = append(lots, lot)
	}
	r.tender.Combos = append(r.tender.Combos, lots)
}

func (r *lineReader) readBudget() {
	r.tender.Budget = r.plainNumber()
}

func (r *lineReader) readTimes() {
	times := &r.tender.Times
	for _, time := range []*int{&times.Questions, &times.Bids, &times.Grades, &times.Prices, &times.Still} {
		*time = r.plainNumber()
	}
}
