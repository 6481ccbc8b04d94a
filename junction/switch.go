package junction

import (
	"strings"

	"junction/api"
	"junction/rules"
	"junction/tree"
)

// Switch handles payments.
type Switch struct {
	tree *tree.Tree          // all that it needs of a table
	down map[string]struct{} // names of routes, whether its table has them or not
}

// NewSwitch makes a switch without rules (P8).
func NewSwitch() *Switch {
	return &Switch{tree.Grow(&rules.Book{}), map[string]struct{}{}}
}

// Install takes new rules (P8).
func (s *Switch) Install(text string) (api.Kind, int) {
	table, kind, line := Compile(text)
	s.take(table)
	return kind, line
}

// Put takes a new table (P8).
func (s *Switch) Put(image string) bool {
	table, ok := Load(image)
	s.take(table)
	return ok
}

func (s *Switch) take(table *Table) {
	if table != nil {
		s.tree = table.tree
	}
}

// Set says that a route is up, or down (P8).
func (s *Switch) Set(route string, up bool) {
	switch {
	case up:
		delete(s.down, route)
	case rules.IsName(route): // no table will ever have a route of another name
		s.down[strings.Clone(route)] = struct{}{} // the text handed in is not kept
	}
}

func (s *Switch) isDown(route string) bool {
	_, down := s.down[route]
	return down
}

// Handle tells what becomes of a payment (P8).
func (s *Switch) Handle(message string) api.Outcome {
	p, ok := readMessage(message)
	if !ok {
		return api.Outcome{Kind: api.Format}
	}
	return s.tree.Decide(p, s.isDown)
}
