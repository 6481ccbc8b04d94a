package tree

import (
	"slices"
	"strings"

	"junction/api"
	"junction/rules"
	"junction/seal"
)

// maxCount is how many a byte can count.
const maxCount = 255

// NoImage is what the reader gives up with, by panic.
type NoImage struct{}

// insist gives up unless something holds.
func insist(holds bool) {
	if !holds {
		panic(NoImage{})
	}
}

// reader believes nothing: whoever knows the checksum can write an image, and
// what Decide leans on must hold for every tree that is read.
type reader struct {
	body string
	at   int
	tree *Tree
}

// Read makes a tree of an image. It gives up by panic, with NoImage: the face
// that calls it recovers.
func Read(image string) *Tree {
	body, ok := seal.Open(image)
	insist(ok)
	r := &reader{body: body, tree: &Tree{}}
	r.read()
	insist(r.at == len(r.body))
	return r.tree
}

func (r *reader) read() {
	t := r.tree
	t.routes = many(r, 0, api.MaxRoutes, r.route)
	t.names = many(r, 0, api.MaxRules, r.name)
	insist(differ(routeNames(t.routes)) && differ(t.names))
	t.programs = many(r, 1, maxCount, r.program)
	t.root = r.node(0)
}

func routeNames(routes []rules.Route) []string {
	var names []string
	for _, r := range routes {
		names = append(names, r.Name)
	}
	return names
}

func differ(names []string) bool {
	for i, name := range names {
		if slices.Index(names, name) != i {
			return false
		}
	}
	return true
}

// many reads how many things stand there, and each of them.
func many[T any](r *reader, least, most int, one func() T) []T {
	var list []T
	for range r.number(small, least, most) {
		list = append(list, one())
	}
	return list
}

func (r *reader) take(count int) string {
	insist(count <= len(r.body)-r.at)
	r.at += count
	return r.body[r.at-count : r.at]
}

func (r *reader) number(width, least, most int) int {
	n := 0
	for i, c := range []byte(r.take(width)) {
		n |= int(c) << (8 * i)
	}
	insist(n >= least && n <= most)
	return n
}

// list reads the numbers of a guard, or the places of an action's routes.
func (r *reader) list(most int) []int {
	return many(r, 1, api.MaxList, func() int { return r.number(mid, 0, most) })
}

func (r *reader) name() string {
	name := r.take(r.number(small, 1, api.MaxName))
	insist(rules.IsName(name))
	return strings.Clone(name) // the image handed in is not kept
}

func (r *reader) route() rules.Route {
	var route rules.Route
	route.Name = r.name()
	route.Base = r.number(wide, 0, api.MaxBase)
	route.Rate = r.number(wide, 0, api.MaxRate)
	return route
}

// program lets no step lead behind the last one. So that one is no guard, as
// a guard goes on.
func (r *reader) program() []step {
	program := many(r, 1, maxCount, r.step)
	for at, s := range program {
		insist(at+s.skip < len(program))
	}
	return program
}

func (r *reader) step() step {
	s := step{sort: sort(r.number(small, 0, int(sorts)-1))}
	switch s.sort {
	case askMcc:
		s.skip = r.skip()
		s.numbers = r.list(api.MaxMcc)
	case askAmount:
		s.skip = r.skip()
		s.numbers = r.span(api.MaxAmount)
	case askCur:
		s.skip = r.skip()
		s.numbers = r.list(api.MaxCur)
	case decline:
		s.rule = r.rule()
	case takeFirst, takeCheapest:
		s.rule = r.rule()
		s.numbers = r.list(len(r.tree.routes) - 1)
	}
	return s
}

func (r *reader) skip() int { return r.number(small, 1, maxCount) }

func (r *reader) rule() int { return r.number(small, 0, len(r.tree.names)-1) }

func (r *reader) span(most int) []int {
	low := r.number(wide, 0, most)
	return []int{low, r.number(wide, low, most)}
}

// node lets no node with kids be so deep that a card's number may have no
// digit for it.
func (r *reader) node(depth int) node {
	sign := r.number(small, inner, len(r.tree.programs))
	if sign != inner {
		return node{program: sign - 1}
	}
	insist(depth < api.MaxBin)
	n := node{kids: new([10]node)}
	for digit := range n.kids {
		n.kids[digit] = r.node(depth + 1)
	}
	return n
}
