// Package junction: rules for payments, made into a table: see DOC.md.
package junction

import (
	"slices"

	"junction/api"
	"junction/regions"
	"junction/rules"
	"junction/tree"
)

// Table is rules that were compiled, or a table that was loaded.
type Table struct {
	book *rules.Book
	tree *tree.Tree
}

// Compile makes a table of rules (P2).
func Compile(text string) (table *Table, kind api.Kind, line int) {
	// The reader gives up by panic, from wherever it finds a fault.
	defer func() {
		if fault, ok := recover().(rules.Fault); ok {
			table, kind, line = nil, fault.Kind, fault.Line
		}
	}()
	book := rules.Read(text)
	return &Table{book, tree.Grow(book)}, api.Fine, 0
}

// Text tells the plain text (P3).
func (t *Table) Text() string { return t.book.Plain() }

// Decide tells what becomes of a payment (P4).
func (t *Table) Decide(p api.Payment, down []string) api.Outcome {
	return t.tree.Decide(p, func(route string) bool { return slices.Contains(down, route) })
}

// Overlaps tells which rules meet (P5).
func (t *Table) Overlaps() []api.Overlap { return regions.Overlaps(t.book) }

// Dead tells which rules never decide (P6).
func (t *Table) Dead() []string { return regions.Dead(t.book) }

// Image tells the table as bytes (P7).
func (t *Table) Image() string { return t.tree.Image() }

// Load makes a table of bytes (P7).
func Load(image string) (table *Table, ok bool) {
	// The reader gives up by panic, from wherever it finds that this is none.
	defer func() {
		if recover() != nil {
			table, ok = nil, false
		}
	}()
	// An image tells nothing of the text: the book stays empty.
	return &Table{&rules.Book{}, tree.Read(image)}, true
}
