package tree

import (
	"junction/rules"
	"junction/seal"
)

// Widths of numbers in an image, in bytes.
const (
	small = 1 // counts, and places
	mid   = 2 // numbers of lists
	wide  = 4 // amounts, and what fees are made of
)

// inner stands in an image for a node with kids; a leaf is the number of its
// program, counted from 1 on.
const inner = 0

type writer struct {
	bytes []byte
}

// Image tells the tree as bytes. Every number has its width: so there is one
// way only to write a tree, and one that was read has the same image.
func (t *Tree) Image() string {
	w := &writer{}
	w.number(small, len(t.routes))
	for _, r := range t.routes {
		w.route(r)
	}
	w.number(small, len(t.names))
	for _, name := range t.names {
		w.name(name)
	}
	w.number(small, len(t.programs))
	for _, program := range t.programs {
		w.program(program)
	}
	w.node(t.root)
	return seal.Close(string(w.bytes))
}

// number writes the low bytes first.
func (w *writer) number(width, n int) {
	for i := range width {
		w.bytes = append(w.bytes, byte(n>>(8*i)))
	}
}

func (w *writer) list(numbers []int) {
	w.number(small, len(numbers))
	for _, n := range numbers {
		w.number(mid, n)
	}
}

func (w *writer) name(name string) {
	w.number(small, len(name))
	w.bytes = append(w.bytes, name...)
}

func (w *writer) route(r rules.Route) {
	w.name(r.Name)
	w.number(wide, r.Base)
	w.number(wide, r.Rate)
}

func (w *writer) program(program []step) {
	w.number(small, len(program))
	for _, s := range program {
		w.step(s)
	}
}

func (w *writer) step(s step) {
	w.number(small, int(s.sort))
	switch s.sort {
	case askMcc, askCur:
		w.number(small, s.skip)
		w.list(s.numbers)
	case askAmount:
		w.number(small, s.skip)
		w.number(wide, s.numbers[0])
		w.number(wide, s.numbers[1])
	case decline:
		w.number(small, s.rule)
	case takeFirst, takeCheapest:
		w.number(small, s.rule)
		w.list(s.numbers)
	}
}

func (w *writer) node(n node) {
	if n.kids == nil {
		w.number(small, 1+n.program)
		return
	}
	w.number(small, inner)
	for _, kid := range n.kids {
		w.node(kid)
	}
}
