package rules

import (
	"strings"

	"junction/api"
)

func understand(entries []entry) *Book {
	b := &Book{}
	for _, e := range entries {
		e.addTo(b)
	}
	return b
}

func (e routeEntry) addTo(b *Book) {
	if len(b.Routes) == api.MaxRoutes {
		e.name.giveUp(api.Many)
	}
	if b.route(e.name.text) >= 0 {
		e.name.giveUp(api.Name)
	}
	var r Route
	r.Name = strings.Clone(e.name.text) // the text handed in is not kept
	r.Base = e.base.upTo(api.MaxBase)
	r.Rate = e.rate.upTo(api.MaxRate)
	b.Routes = append(b.Routes, r)
}

// addTo goes through the tokens in the order of the text: the first fault
// is the one that is told.
func (e ruleEntry) addTo(b *Book) {
	if len(b.Rules) == api.MaxRules {
		e.name.giveUp(api.Many)
	}
	if b.hasRule(e.name.text) {
		e.name.giveUp(api.Name)
	}
	var r Rule
	r.Name = strings.Clone(e.name.text) // the text handed in is not kept
	r.Rank = e.rank.upTo(api.MaxRank)
	r.Digits = e.bin.digits()
	r.Bin = e.bin.span()
	r.Mcc = numbers(e.mcc, api.MaxMcc)
	if e.hasAmount {
		r.HasAmount = true
		r.Amount = e.amount.spanUpTo(api.MaxAmount)
	}
	r.Cur = numbers(e.cur, api.MaxCur)
	r.Decline = e.decline
	r.Cheapest = e.cheapest
	r.Routes = b.places(e.routes)
	r.Ahead = len(b.Routes)
	b.Rules = append(b.Rules, r)
}

func (t token) upTo(most int) int {
	n := t.value()
	if n > most {
		t.giveUp(api.Range)
	}
	return n
}

// digits counts noughts ahead too: 05 and 5 are about different cards.
func (p pair) digits() int {
	n := len(p.low.text)
	if n > api.MaxBin {
		p.low.giveUp(api.Range)
	}
	if len(p.high.text) != n {
		p.high.giveUp(api.Range)
	}
	return n
}

func (p pair) span() Span {
	s := Span{p.low.value(), p.high.value()}
	if s.High < s.Low {
		p.high.giveUp(api.Range)
	}
	return s
}

func (p pair) spanUpTo(most int) Span {
	p.low.upTo(most)
	p.high.upTo(most)
	return p.span()
}

func numbers(list []token, most int) []int {
	var out []int
	for i, t := range list {
		if i == api.MaxList {
			t.giveUp(api.Many)
		}
		out = append(out, t.upTo(most))
	}
	return out
}

func (b *Book) places(list []token) []int {
	var out []int
	for i, t := range list {
		if i == api.MaxList {
			t.giveUp(api.Many)
		}
		place := b.route(t.text)
		if place < 0 {
			t.giveUp(api.Name)
		}
		out = append(out, place)
	}
	return out
}

// route tells the place of the route of this name, or -1.
func (b *Book) route(name string) int {
	for i, r := range b.Routes {
		if r.Name == name {
			return i
		}
	}
	return -1
}

func (b *Book) hasRule(name string) bool {
	for _, r := range b.Rules {
		if r.Name == name {
			return true
		}
	}
	return false
}
