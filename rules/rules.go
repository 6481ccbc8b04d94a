// Package rules reads the text of rules, and tells their plain text.
package rules

import "junction/api"

// Fault is what the reader gives up with, by panic.
type Fault struct {
	Kind api.Kind
	Line int
}

// Route is a way that a payment may go.
type Route struct {
	Name       string
	Base, Rate int
}

// Span is the numbers from Low to High, both among them.
type Span struct {
	Low, High int
}

// Rule says which payments it meets, and what becomes of them.
type Rule struct {
	Name      string
	Rank      int
	Digits    int // how many first digits of a card's number Bin is about
	Bin       Span
	Mcc       []int // empty: there is no such guard; so with Cur
	HasAmount bool
	Amount    Span
	Cur       []int
	Decline   bool
	Cheapest  bool
	Routes    []int // places in the book's Routes
	Ahead     int   // how many routes stand ahead: keeps the order of the text
}

// Book is all that a text says.
type Book struct {
	Routes []Route
	Rules  []Rule
}

// Read makes a book of a text. It gives up by panic, with a Fault: the face
// that calls it recovers.
func Read(text string) *Book {
	if len(text) > api.MaxText {
		panic(Fault{api.Long, 0})
	}
	return understand(parse(scan(text)))
}
