package rules

import (
	"strings"

	"junction/api"
)

type sort int

const (
	nameSort sort = iota
	intSort
	fixedSort // a keyword or a mark: its text tells which
	endSort   // stands behind the last token, so that there is always one to look at
)

// maxDigits is how many digits an INT may have.
const maxDigits = 9

type token struct {
	sort sort
	text string
	line int
}

func (t token) giveUp(kind api.Kind) {
	panic(Fault{kind, t.line})
}

// value needs no check for overflow: the scanner lets pass maxDigits at most.
func (t token) value() int {
	n := 0
	for _, c := range []byte(t.text) {
		n = n*10 + int(c-'0')
	}
	return n
}

type scanner struct {
	text     string
	at, line int
	tokens   []token
}

func scan(text string) []token {
	s := &scanner{text: text, line: 1}
	for s.at < len(s.text) {
		s.step()
	}
	return append(s.tokens, token{sort: endSort, line: s.line})
}

func (s *scanner) step() {
	c := s.text[s.at]
	switch {
	case c == '\n':
		s.line++
		s.at++
	case c == ' ' || c == '\t':
		s.at++
	case c == '#':
		s.at += s.run(inRemark)
	case isSmall(c):
		s.word()
	case isDigit(c):
		s.take(intSort, s.run(isDigit), maxDigits)
	case c == ';' || c == ':' || c == ',':
		s.take(fixedSort, 1, 1)
	case s.ahead("..") || s.ahead("->"):
		s.take(fixedSort, 2, 2)
	default:
		panic(Fault{api.Token, s.line})
	}
}

func (s *scanner) word() {
	n := s.run(inWord)
	if isKeyword(s.text[s.at : s.at+n]) {
		s.take(fixedSort, n, n)
	} else {
		s.take(nameSort, n, api.MaxName)
	}
}

func (s *scanner) take(what sort, length, most int) {
	if length > most {
		panic(Fault{api.Token, s.line})
	}
	s.tokens = append(s.tokens, token{what, s.text[s.at : s.at+length], s.line})
	s.at += length
}

// run tells how many bytes from here on belong, one behind the other.
func (s *scanner) run(belongs func(byte) bool) int {
	n := 0
	for s.at+n < len(s.text) && belongs(s.text[s.at+n]) {
		n++
	}
	return n
}

func (s *scanner) ahead(mark string) bool {
	return strings.HasPrefix(s.text[s.at:], mark)
}

func isSmall(c byte) bool  { return 'a' <= c && c <= 'z' }
func isDigit(c byte) bool  { return '0' <= c && c <= '9' }
func inWord(c byte) bool   { return isSmall(c) || isDigit(c) }
func inRemark(c byte) bool { return c != '\n' }

// AllDigits tells whether a text has no other sign.
func AllDigits(text string) bool {
	for _, c := range []byte(text) {
		if !isDigit(c) {
			return false
		}
	}
	return true
}

// IsName tells whether a text is, whole, a name that a route or a rule may have.
func IsName(text string) bool {
	if text == "" || len(text) > api.MaxName || !isSmall(text[0]) || isKeyword(text) {
		return false
	}
	for _, c := range []byte(text) {
		if !inWord(c) {
			return false
		}
	}
	return true
}

func isKeyword(word string) bool {
	switch word {
	case "route", "rule", "bin", "mcc", "amount", "cur", "decline", "cheapest":
		return true
	}
	return false
}
