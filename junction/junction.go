// Package junction: rules for payments, made into a table: see DOC.md.
package junction

import (
	"junction/api"
	"junction/regions"
	"junction/rules"
	"junction/tree"
)

// Table is rules that were compiled, or a table that was loaded.
type Table struct {
	book *rules.Book
	tree *tree.Tree
}

// Compile makes a table of rules (P2).
func Compile(text string) (table *Table, kind api.Kind, line int) {
	// The reader gives up by panic, from wherever it finds a fault.
	defer func() {
		if fault, ok := recover().(rules.Fault); ok {
			table, kind, line = nil, fault.Kind, fault.Line
		}
	}()
	book := rules.Read(text)
	return &Table{book, tree.Grow(book)}, api.Fine, 0
}

// Text tells the plain text (P3).
func (t *Table) Text() string { return t.book.Plain() }

// Decide tells what becomes of a payment (P4).
func (t *Table) Decide(p api.Payment, down []string) api.Outcome { return t.tree.Decide(p, down) }

// Overlaps tells which rules meet (P5).
func (t *Table) Overlaps() []api.Overlap { return regions.Overlaps(t.book) }

// Dead tells which rules never decide (P6).
func (t *Table) Dead() []string { return regions.Dead(t.book) }

// Image tells the table as bytes (P7).
func (t *Table) Image() string { return "" }

// Load makes a table of bytes (P7).
func Load(image string) (*Table, bool) { return nil, false }

// Switch handles payments.
type Switch struct{}

// NewSwitch makes a switch without rules (P8).
func NewSwitch() *Switch { return nil }

// Install takes new rules (P8).
func (s *Switch) Install(text string) (api.Kind, int) { return api.Fine, 0 }

// Put takes a new table (P8).
func (s *Switch) Put(image string) bool { return false }

// Set says that a route is up, or down (P8).
func (s *Switch) Set(route string, up bool) {}

// Handle tells what becomes of a payment (P8).
func (s *Switch) Handle(message string) api.Outcome { return api.Outcome{} }
