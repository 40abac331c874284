package text

import (
	"strconv"
	"strings"

	"probity/api"
)

// scanner takes tokens from one line of a text.
type scanner struct {
	text string // the text up to the end of the line, so that offsets count from its beginning
	at   int    // the offset up to which it has been read
}

// token is a piece of a line; the end of the line is the one without text.
type token struct {
	at   int
	text string
}

// failure is what readers panic with: the first error ends the reading.
type failure struct {
	at   int
	kind api.Errno
}

// caught returns what read returns, 0 and OK, or the failure that ended it.
func caught[T any](read func() T) (result T, at int, kind api.Errno) {
	defer func() {
		problem := recover()
		if problem == nil {
			return
		}
		failed, known := problem.(failure)
		if !known {
			// Nothing that a faulty reader has read may count as correct.
			failed = failure{kind: api.ErrToken}
		}
		at, kind = failed.at, failed.kind
	}()
	return read(), 0, api.OK
}

func (s *scanner) skipBlanks() {
	for s.at < len(s.text) && s.text[s.at] == ' ' {
		s.at++
	}
}

func (s *scanner) atEnd() bool {
	s.skipBlanks()
	return s.at == len(s.text)
}

// take returns the next token, whose length is a function of the rest of the line.
func (s *scanner) take(length func(rest string) int) token {
	s.skipBlanks()
	start := s.at
	s.at += length(s.text[start:])
	return token{start, s.text[start:s.at]}
}

// require ends the reading with an error of this kind at the token, unless the condition holds.
func (t token) require(condition bool, kind api.Errno) {
	if !condition {
		panic(failure{t.at, kind})
	}
}

func isDigit(c byte) bool { return '0' <= c && c <= '9' }

func isLetter(c byte) bool { return 'a' <= c && c <= 'z' || 'A' <= c && c <= 'Z' }

func isInName(c byte) bool { return isLetter(c) || isDigit(c) || c == '_' }

// prefixLength returns how many bytes at the beginning of s have the property.
func prefixLength(s string, property func(c byte) bool) int {
	n := 0
	for n < len(s) && property(s[n]) {
		n++
	}
	return n
}

// isNumber reports whether s is a NUMBER, however great.
func isNumber(s string) bool {
	return s != "" && prefixLength(s, isDigit) == len(s) && (s == "0" || s[0] != '0')
}

// numberUpToMost returns the value of a NUMBER and true, if it is at most 1000000000.
func numberUpToMost(s string) (int, bool) {
	n, err := strconv.Atoi(s)
	if err != nil || n > api.MaxNumber {
		return 0, false
	}
	return n, true
}

const longestName = 30

func isName(s string) bool {
	return s != "" && len(s) <= longestName && isLetter(s[0]) && prefixLength(s, isInName) == len(s)
}

func isWord(s string) bool {
	switch s {
	case "price", "low", "min", "max":
		return false
	}
	return isName(s)
}

// isVariable reports whether s is a name that stands for a value in formulas.
func isVariable(s string) bool {
	return isName(s) && s != "min" && s != "max"
}

// kept returns a copy of the text of the token, because results share no memory with arguments.
func (t token) kept() string { return strings.Clone(t.text) }
