package regions

import (
	"strings"

	"junction/api"
	"junction/rules"
)

// Overlaps tells which two rules of a book meet some payment both.
func Overlaps(b *rules.Book) []api.Overlap {
	var list []api.Overlap
	for i, first := range b.Rules {
		for _, second := range b.Rules[i+1:] {
			if p, ok := common(first, second); ok {
				list = append(list, overlap(first, second, p))
			}
		}
	}
	return list
}

func common(first, second rules.Rule) (payment, bool) {
	for p, had := range payments(areaOf(first), []area{areaOf(second)}) {
		if had > 0 {
			return p, true
		}
	}
	return payment{}, false
}

// overlap tells copies of the names: an answer shares no memory with the book.
func overlap(first, second rules.Rule, p payment) api.Overlap {
	return api.Overlap{First: strings.Clone(first.Name), Second: strings.Clone(second.Name), Witness: p.told()}
}

// Dead tells which rules of a book decide no payment at all.
func Dead(b *rules.Book) []string {
	var list []string
	for i, r := range b.Rules {
		if !decides(r, ahead(b.Rules, i)) {
			list = append(list, strings.Clone(r.Name))
		}
	}
	return list
}

// decides tells whether a rule meets a payment that none of the areas has.
func decides(r rules.Rule, ahead []area) bool {
	for _, had := range payments(areaOf(r), ahead) {
		if had == 0 {
			return true
		}
	}
	return false
}

// ahead is what the rules meet that decide ahead of the one at a place.
func ahead(list []rules.Rule, place int) []area {
	var areas []area
	for i, r := range list {
		if r.Rank > list[place].Rank || r.Rank == list[place].Rank && i < place {
			areas = append(areas, areaOf(r))
		}
	}
	return areas
}
