// Package regions tells which rules meet some payment both, and which decide
// none. Rules part all payments into regions, and each meets all payments of
// a region or none: one payment of each stands for the others.
package regions

import (
	"strconv"

	"junction/api"
	"junction/rules"
)

// The sides of an area, and of a payment.
const (
	card = iota // the first MaxBin digits, as a number: no rule asks for more
	mcc
	amount
	cur
	sides // how many there are
)

type payment [sides]int

// told makes it a payment that others understand: MaxBin digits are enough
// for a card's number, as it has at least MinPan.
func (p payment) told() api.Payment {
	pan := strconv.Itoa(p[card])
	for len(pan) < api.MinPan {
		pan = "0" + pan
	}
	return api.Payment{Pan: pan, Mcc: p[mcc], Amount: p[amount], Cur: p[cur]}
}

// area is the payments whose number is, on each side, in one of its spans.
type area [sides][]rules.Span

// areaOf is the payments that a rule meets.
func areaOf(r rules.Rule) area {
	a := area{
		card:   {cards(r)},
		mcc:    listed(r.Mcc, api.MaxMcc),
		amount: {{Low: 0, High: api.MaxAmount}},
		cur:    listed(r.Cur, api.MaxCur),
	}
	if r.HasAmount {
		a[amount] = []rules.Span{r.Amount}
	}
	return a
}

// cards gives a rule's range the digits that it does not ask for.
func cards(r rules.Rule) rules.Span {
	size := 1
	for range api.MaxBin - r.Digits {
		size *= 10
	}
	return rules.Span{Low: r.Bin.Low * size, High: (r.Bin.High+1)*size - 1}
}

// listed is every number up to the greatest, if there is no list.
func listed(list []int, most int) []rules.Span {
	if len(list) == 0 {
		return []rules.Span{{Low: 0, High: most}}
	}
	var spans []rules.Span
	for _, n := range list {
		spans = append(spans, rules.Span{Low: n, High: n})
	}
	return spans
}

// has tells whether a number is on a side of the area.
func (a area) has(side, n int) bool {
	for _, s := range a[side] {
		if within(s, n) {
			return true
		}
	}
	return false
}

func within(s rules.Span, n int) bool { return n >= s.Low && n <= s.High }
