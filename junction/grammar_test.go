package junction_test

import (
	"strings"
	"testing"

	"junction/api"
	"junction/junction"
)

// grammar tells for each place within a text which tokens may stand there, and
// to which place each leads. At "rules" the text may end.
var grammar = map[string]map[string]string{
	"rules":       {"route": "route", "rule": "rule"},
	"route":       {"n": "route n"},
	"route n":     {"1": "route n 1"},
	"route n 1":   {"1": "entry"},
	"entry":       {";": "rules"},
	"rule":        {"n": "rule n"},
	"rule n":      {"1": "rule n 1"},
	"rule n 1":    {":": "rule n 1 :"},
	"rule n 1 :":  {"bin": "bin"},
	"bin":         {"1": "bin 1"},
	"bin 1":       {"..": "bin 1 .."},
	"bin 1 ..":    {"1": "bin 1 .. 1"},
	"bin 1 .. 1":  {"mcc": "mcc", "amount": "amount", "cur": "cur", "->": "->"},
	"mcc":         {"1": "mcc 1"},
	"mcc 1":       {",": "mcc", "amount": "amount", "cur": "cur", "->": "->"},
	"amount":      {"1": "amount 1"},
	"amount 1":    {"..": "amount .."},
	"amount ..":   {"1": "amount .. 1"},
	"amount .. 1": {"cur": "cur", "->": "->"},
	"cur":         {"1": "cur 1"},
	"cur 1":       {",": "cur", "->": "->"},
	"->":          {"decline": "entry", "cheapest": "cheapest", "n": "names"},
	"cheapest":    {"n": "names"},
	"names":       {",": "cheapest", ";": "rules"},
}

var allTokens = strings.Fields("route rule bin mcc amount cur decline cheapest n 1 ; : , .. ->")

// shortest tells for each place the shortest way there from a place, as tokens.
func shortest(from string) map[string][]string {
	ways := map[string][]string{from: {}}
	queue := []string{from}
	for len(queue) > 0 {
		place := queue[0]
		queue = queue[1:]
		for _, token := range allTokens {
			next, ok := grammar[place][token]
			if _, seen := ways[next]; ok && !seen {
				ways[next] = append(append([]string{}, ways[place]...), token)
				queue = append(queue, next)
			}
		}
	}
	return ways
}

func onLines(parts ...[]string) string {
	var tokens []string
	for _, part := range parts {
		tokens = append(tokens, part...)
	}
	return strings.Join(tokens, "\n")
}

// At every place every token is tried: it can stand there and the rest of the
// text has no fault of form, or it is the fault.
func TestFormAtEachPlace(t *testing.T) {
	ways := shortest("rules")
	if len(ways) != len(grammar) {
		t.Fatalf("%d places are reached, of %d", len(ways), len(grammar))
	}
	entry := strings.Fields("route n 1 1 ;")
	for place, way := range ways {
		for _, token := range allTokens {
			next, ok := grammar[place][token]
			if !ok {
				wantFault(t, onLines(way, []string{token}), api.Form, len(way)+1)
				wantFault(t, onLines(entry, way, []string{token}, entry), api.Form, len(entry)+len(way)+1)
				continue
			}
			text := onLines(way, []string{token}, shortest(next)["rules"], entry)
			if _, kind, line := junction.Compile(text); kind == api.Form || kind == api.Token {
				t.Errorf("P2: Compile(%q) = .., %d, %d; its form is right", text, kind, line)
			}
		}
	}
}

func TestFormAtTheEndOfEachPlace(t *testing.T) {
	for place, way := range shortest("rules") {
		if place == "rules" {
			continue
		}
		wantFault(t, onLines(way), api.Form, len(way))
		wantFault(t, onLines(way)+"\n", api.Form, len(way)+1)
	}
}
