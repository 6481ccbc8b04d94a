package tree

import (
	"cmp"
	"slices"

	"junction/rules"
)

// set is rules, by the bits of their places.
type set uint

func (s set) has(place int) bool { return s>>place&1 != 0 }

func (s set) with(place int) set { return s | 1<<place }

// grower makes a tree of a book.
type grower struct {
	rules []rules.Rule
	order []int // places of the rules, the one that decides ahead of others first
	// leaves that meet the same rules share a program
	programs [][]step
	places   map[set]int
}

// Grow makes the tree that decides by the rules of a book.
func Grow(b *rules.Book) *Tree {
	g := &grower{rules: b.Rules, order: byRank(b.Rules), places: map[set]int{}}
	t := &Tree{routes: b.Routes}
	for _, r := range b.Rules {
		t.names = append(t.names, r.Name)
	}
	t.root = g.grow(part{}, 0, 1<<len(b.Rules)-1)
	t.programs = g.programs
	return t
}

func byRank(list []rules.Rule) []int {
	var order []int
	for i := range list {
		order = append(order, i)
	}
	slices.SortStableFunc(order, func(i, j int) int { return cmp.Compare(list[j].Rank, list[i].Rank) })
	return order
}

// grow makes the node of the cards of a part. The rules met are about all of
// them; those open may be about all, some or none.
func (g *grower) grow(at part, met, open set) node {
	var split set
	for i, r := range g.rules {
		if !open.has(i) {
			continue
		}
		switch about(r, at) {
		case all:
			met = met.with(i)
		case some:
			split = split.with(i)
		}
	}
	if split == 0 {
		return node{program: g.program(met)}
	}
	n := node{kids: new([10]node)}
	for digit := range n.kids {
		n.kids[digit] = g.grow(at.longer(digit), met, split)
	}
	return n
}

type share int

const (
	none share = iota
	some
	all
)

// about tells of how many of a part's cards a rule is. The first part of the
// rule's range that has cards in common with it tells all: a range's parts
// are as great as can be.
func about(r rules.Rule, at part) share {
	for p := range parts(r.Digits, r.Bin) {
		if p.holds(at) {
			return all
		}
		if at.holds(p) {
			return some
		}
	}
	return none
}

func (g *grower) program(met set) int {
	place, ok := g.places[met]
	if !ok {
		place = len(g.programs)
		g.places[met] = place
		g.programs = append(g.programs, g.write(met))
	}
	return place
}

// write makes the program that asks the rules one behind the other.
func (g *grower) write(met set) []step {
	var program []step
	for _, i := range g.order {
		if !met.has(i) {
			continue
		}
		asked := guards(g.rules[i])
		for at := range asked {
			asked[at].skip = len(asked) - at + 1 // behind the rule's action
		}
		program = append(program, asked...)
		program = append(program, g.action(i))
		if len(asked) == 0 {
			return program // nothing behind it would ever be asked
		}
	}
	return append(program, step{sort: endWithoutRule})
}

func guards(r rules.Rule) []step {
	var steps []step
	if len(r.Mcc) > 0 {
		steps = append(steps, step{sort: askMcc, numbers: r.Mcc})
	}
	if r.HasAmount {
		steps = append(steps, step{sort: askAmount, numbers: []int{r.Amount.Low, r.Amount.High}})
	}
	if len(r.Cur) > 0 {
		steps = append(steps, step{sort: askCur, numbers: r.Cur})
	}
	return steps
}

func (g *grower) action(place int) step {
	r := g.rules[place]
	switch {
	case r.Decline:
		return step{sort: decline, rule: place}
	case r.Cheapest:
		return step{sort: takeCheapest, rule: place, numbers: r.Routes}
	}
	return step{sort: takeFirst, rule: place, numbers: r.Routes}
}
