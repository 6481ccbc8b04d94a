package tree

import (
	"slices"
	"strings"

	"junction/api"
)

// sort is what a step of a program does: its place in the table doings.
type sort byte

const (
	askMcc sort = iota
	askAmount
	askCur
	decline
	takeFirst
	takeCheapest
	endWithoutRule
	sorts // how many there are
)

// step is an instruction of a program.
type step struct {
	sort    sort
	numbers []int // of a list, the two of a span, or the places of routes
	rule    int   // of an action: the place of its rule
	skip    int   // of a guard: how many steps to go on if it does not hold
}

// run is a payment's way through a program.
type run struct {
	tree    *Tree
	payment api.Payment
	down    [api.MaxRoutes]bool // by the places of routes
	at      int                 // the step that is next
	done    bool
	outcome api.Outcome
}

// doings is made anew each time: no functions stand at package level.
func doings() [sorts]func(*run, step) {
	return [sorts]func(*run, step){
		askMcc:         (*run).askMcc,
		askAmount:      (*run).askAmount,
		askCur:         (*run).askCur,
		decline:        (*run).decline,
		takeFirst:      (*run).takeFirst,
		takeCheapest:   (*run).takeCheapest,
		endWithoutRule: (*run).endWithoutRule,
	}
}

// through ends: each guard goes on, and the last step of a program is none.
func (r *run) through(program []step) {
	do := doings()
	for !r.done {
		s := program[r.at]
		do[s.sort](r, s)
	}
}

func (r *run) askMcc(s step) { r.goOn(s, slices.Contains(s.numbers, r.payment.Mcc)) }

func (r *run) askCur(s step) { r.goOn(s, slices.Contains(s.numbers, r.payment.Cur)) }

func (r *run) askAmount(s step) {
	r.goOn(s, r.payment.Amount >= s.numbers[0] && r.payment.Amount <= s.numbers[1])
}

func (r *run) goOn(s step, holds bool) {
	if holds {
		r.at++
	} else {
		r.at += s.skip
	}
}

func (r *run) decline(s step) { r.end(api.Refused, r.tree.names[s.rule], "") }

func (r *run) endWithoutRule(step) { r.end(api.NoRule, "", "") }

func (r *run) takeFirst(s step) {
	for _, place := range s.numbers {
		if !r.down[place] {
			r.endBy(s, place)
			return
		}
	}
	r.endDown(s)
}

func (r *run) takeCheapest(s step) {
	best := -1
	for _, place := range s.numbers {
		if !r.down[place] && (best < 0 || r.fee(place) < r.fee(best)) {
			best = place
		}
	}
	if best < 0 {
		r.endDown(s)
	} else {
		r.endBy(s, best)
	}
}

// fee is counted in 64 bits: the greatest one has no room in 32.
func (r *run) fee(place int) int64 {
	route := r.tree.routes[place]
	return int64(route.Base) + int64(route.Rate)*int64(r.payment.Amount)
}

func (r *run) endBy(s step, place int) {
	r.end(api.Forward, r.tree.names[s.rule], r.tree.routes[place].Name)
}

func (r *run) endDown(s step) { r.end(api.Down, r.tree.names[s.rule], "") }

// end tells copies of the names: an answer shares no memory with the tree.
func (r *run) end(kind int, rule, route string) {
	r.done = true
	r.outcome = api.Outcome{Kind: kind, Rule: strings.Clone(rule), Route: strings.Clone(route)}
}
