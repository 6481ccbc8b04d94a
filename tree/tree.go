// Package tree decides payments: a tree by the digits of a card's number,
// whose leaves are programs.
package tree

import (
	"junction/api"
	"junction/rules"
)

// Tree is a table that decides. It is never changed once it is grown, or read.
type Tree struct {
	routes   []rules.Route
	names    []string // of the rules
	programs [][]step
	root     node
}

// node is a leaf if it has no kids.
type node struct {
	kids    *[10]node
	program int // of a leaf: its place in the tree's programs
}

// Decide tells what becomes of a payment.
func (t *Tree) Decide(p api.Payment, isDown func(route string) bool) api.Outcome {
	if !isPayment(p) {
		return api.Outcome{Kind: api.Format}
	}
	r := run{tree: t, payment: p, down: t.downs(isDown)}
	r.through(t.programs[t.leaf(p.Pan)])
	return r.outcome
}

// leaf goes down by the digits. They are enough: a tree is at most MaxBin
// nodes deep, and a card's number has at least MinPan digits.
func (t *Tree) leaf(pan string) int {
	at := &t.root
	for i := 0; at.kids != nil; i++ {
		at = &at.kids[pan[i]-'0']
	}
	return at.program
}

func (t *Tree) downs(isDown func(route string) bool) [api.MaxRoutes]bool {
	var down [api.MaxRoutes]bool
	for i, r := range t.routes {
		down[i] = isDown(r.Name)
	}
	return down
}

func isPayment(p api.Payment) bool {
	return isPan(p.Pan) && upTo(p.Mcc, api.MaxMcc) && upTo(p.Amount, api.MaxAmount) && upTo(p.Cur, api.MaxCur)
}

func isPan(pan string) bool {
	return len(pan) >= api.MinPan && len(pan) <= api.MaxPan && rules.AllDigits(pan)
}

func upTo(n, most int) bool { return n >= 0 && n <= most }
