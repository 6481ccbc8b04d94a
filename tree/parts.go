package tree

import (
	"iter"

	"junction/rules"
)

// part is the cards whose numbers begin with the same digits: no digits at
// all stand for every card.
type part struct {
	digits int // how many
	number int // what they are as a number
}

// longer is the cards of a part that have this digit next.
func (p part) longer(digit int) part {
	return part{p.digits + 1, p.number*10 + digit}
}

// holds tells whether all cards of q are cards of p.
func (p part) holds(q part) bool {
	for q.digits > p.digits {
		q = part{q.digits - 1, q.number / 10}
	}
	return q == p
}

// parts gives the parts that a range of numbers with so many digits falls
// into, in their order, each as great as can be.
func parts(digits int, span rules.Span) iter.Seq[part] {
	return func(yield func(part) bool) {
		for low := span.Low; low <= span.High; {
			size, p := 1, part{digits, low}
			for p.number%10 == 0 && low+size*10-1 <= span.High {
				size, p = size*10, part{p.digits - 1, p.number / 10}
			}
			if !yield(p) {
				return
			}
			low += size
		}
	}
}
