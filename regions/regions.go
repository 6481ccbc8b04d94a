package regions

import (
	"iter"
	"slices"

	"junction/rules"
)

// payments gives a payment of each region that the others part an area into,
// and how many of the others have it.
func payments(a area, others []area) iter.Seq2[payment, int] {
	return from(0, a, others)
}

// from gives payments by their sides from this one on; the others have all
// that is known of the sides ahead of it.
func from(side int, a area, others []area) iter.Seq2[payment, int] {
	return func(yield func(payment, int) bool) {
		if side == sides {
			yield(payment{}, len(others))
			return
		}
		for _, n := range starts(side, a, others) {
			for p, had := range from(side+1, a, having(side, n, others)) {
				p[side] = n
				if !yield(p, had) {
					return
				}
			}
		}
	}
}

// starts is the numbers on a side of the area at which one of the others may
// begin, or have ended: up to the next of them nothing changes.
func starts(side int, a area, others []area) []int {
	var list []int
	for _, own := range a[side] {
		list = append(list, own.Low)
		for _, o := range others {
			list = append(list, cuts(own, o[side])...)
		}
	}
	slices.Sort(list)
	return slices.Compact(list)
}

func cuts(own rules.Span, spans []rules.Span) []int {
	var list []int
	for _, s := range spans {
		for _, n := range [...]int{s.Low, s.High + 1} {
			if within(own, n) {
				list = append(list, n)
			}
		}
	}
	return list
}

func having(side, n int, others []area) []area {
	var list []area
	for _, o := range others {
		if o.has(side, n) {
			list = append(list, o)
		}
	}
	return list
}
