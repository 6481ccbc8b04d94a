package rules

import "junction/api"

// entry is a route or a rule whose form is right; its tokens are kept, since
// faults of sense are told by their lines, and only behind all faults of form.
type entry interface {
	addTo(b *Book)
}

type routeEntry struct {
	name, base, rate token
}

type ruleEntry struct {
	name, rank        token
	bin               pair
	mcc, cur          []token
	hasAmount         bool
	amount            pair
	decline, cheapest bool
	routes            []token
}

// pair is the two numbers of a span.
type pair struct {
	low, high token
}

type parser struct {
	tokens []token
	at     int
}

func parse(tokens []token) []entry {
	p := &parser{tokens: tokens}
	var entries []entry
	for p.here().sort != endSort {
		entries = append(entries, p.entry())
		p.expect(";")
	}
	return entries
}

func (p *parser) here() token {
	return p.tokens[p.at]
}

// skip steps over a keyword or a mark, if it stands here.
func (p *parser) skip(text string) bool {
	t := p.here()
	if t.sort != fixedSort || t.text != text {
		return false
	}
	p.at++
	return true
}

func (p *parser) expect(text string) {
	if !p.skip(text) {
		p.here().giveUp(api.Form)
	}
}

func (p *parser) take(want sort) token {
	t := p.here()
	if t.sort != want {
		t.giveUp(api.Form)
	}
	p.at++
	return t
}

func (p *parser) entry() entry {
	if p.skip("route") {
		return p.route()
	}
	p.expect("rule")
	return p.rule()
}

func (p *parser) route() routeEntry {
	var e routeEntry
	e.name = p.take(nameSort)
	e.base = p.take(intSort)
	e.rate = p.take(intSort)
	return e
}

func (p *parser) rule() ruleEntry {
	var e ruleEntry
	e.name = p.take(nameSort)
	e.rank = p.take(intSort)
	p.expect(":")
	p.expect("bin")
	e.bin = p.pair()
	if p.skip("mcc") {
		e.mcc = p.list(intSort)
	}
	if p.skip("amount") {
		e.hasAmount = true
		e.amount = p.pair()
	}
	if p.skip("cur") {
		e.cur = p.list(intSort)
	}
	p.expect("->")
	p.action(&e)
	return e
}

func (p *parser) action(e *ruleEntry) {
	if p.skip("decline") {
		e.decline = true
		return
	}
	e.cheapest = p.skip("cheapest")
	e.routes = p.list(nameSort)
}

func (p *parser) pair() pair {
	low := p.take(intSort)
	p.expect("..")
	return pair{low, p.take(intSort)}
}

func (p *parser) list(want sort) []token {
	list := []token{p.take(want)}
	for p.skip(",") {
		list = append(list, p.take(want))
	}
	return list
}
