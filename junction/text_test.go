package junction_test

import (
	"math/rand"
	"regexp"
	"strconv"
	"strings"
	"testing"
	"unsafe"

	"junction/api"
	"junction/junction"
)

func wantText(t *testing.T, text, want string) {
	t.Helper()
	table := wantFine(t, text)
	for range 2 {
		if got := table.Text(); got != want {
			t.Errorf("P3: Text() of %q = %q, want %q", text, got, want)
		}
	}
	if got := wantFine(t, want).Text(); got != want {
		t.Errorf("P3: Text() of the plain text %q = %q", want, got)
	}
}

func TestPlainText(t *testing.T) {
	wantText(t, example, `route a 10 2;
route b 500 0;
route c 0 9;
rule us 5: bin 40..49 cur 840 -> cheapest a, b;
rule big 7: bin 4..4 amount 1000..1000000 -> c, a;
rule no 1: bin 400000..499999 -> decline;
rule low 1: bin 4..4 mcc 5411, 5412 -> b;
`)
	for text, want := range map[string]string{
		"":                                      "",
		"\t\n # nothing":                        "",
		"route a 0 0;":                          "route a 0 0;\n",
		"route a 000000000 00100;":              "route a 0 100;\n",
		"route a 1000000 1000;":                 "route a 1000000 1000;\n",
		"rule r 000:bin 0..0->decline;":         "rule r 0: bin 0..0 -> decline;\n",
		"rule r 1:bin 00..09->decline;":         "rule r 1: bin 00..09 -> decline;\n",
		"rule r 1:bin 000000..000000->decline;": "rule r 1: bin 000000..000000 -> decline;\n",
		"rule r 1:bin 10..20->decline;":         "rule r 1: bin 10..20 -> decline;\n",
		"rule r\n1\n:\nbin\n1\n..\n2\nmcc\n07\n,\n00\n,\n7\namount\n00\n..\n09\ncur\n010\n->\ndecline\n;": "rule r 1: bin 1..2 mcc 7, 0, 7 amount 0..9 cur 10 -> decline;\n",
		"route a 1 2;rule r 1:bin 1..2 cur 1,2->a,a;":                                                     "route a 1 2;\nrule r 1: bin 1..2 cur 1, 2 -> a, a;\n",
		"route a 1 2;rule r 1:bin 1..2->cheapest a;":                                                      "route a 1 2;\nrule r 1: bin 1..2 -> cheapest a;\n",
	} {
		wantText(t, text, want)
	}
}

// Routes and rules stay in the order in which they stand in the text.
func TestPlainTextKeepsTheOrder(t *testing.T) {
	const plain = `rule z 1: bin 1..1 -> decline;
rule y 2: bin 1..1 -> decline;
route b 1 1;
rule b 3: bin 1..1 -> b;
route a 1 1;
route c 1 1;
rule a 1: bin 1..1 -> c, a, b, c;
route d 1 1;
`
	wantText(t, plain, plain)
	wantText(t, strings.ReplaceAll(plain, "\n", " "), plain)
}

func TestLargestPlainTextIsNoLongText(t *testing.T) {
	text := ""
	for i := range api.MaxRoutes {
		text += "route nnnnnnn" + strconv.Itoa(i) + " 1000000 1000;"
	}
	for i := range api.MaxRules {
		text += "rule nnnnnnn" + strconv.Itoa(i) + " 1000:bin 100000..999999mcc 9999,9999,9999,9999amount 999999999..999999999cur 999,999,999,999->cheapest nnnnnnn0,nnnnnnn1,nnnnnnn2,nnnnnnn3;"
	}
	wantText(t, text, plainByTokens(text))
}

var tokenForm = regexp.MustCompile(`#[^\n]*|[a-z][a-z0-9]*|[0-9]+|[;:,]|\.\.|->`)

// plainByTokens tells the plain text of a text without faults, token by token.
func plainByTokens(text string) string {
	plain, behindBin := "", 0
	for _, token := range tokenForm.FindAllString(text, -1) {
		if token[0] == '#' {
			continue
		}
		if token[0] >= '0' && token[0] <= '9' && behindBin == 0 {
			n, _ := strconv.Atoi(token)
			token = strconv.Itoa(n)
		}
		if behindBin > 0 {
			behindBin--
		}
		if token == "bin" {
			behindBin = 3
		}
		glued := plain == "" || strings.HasSuffix(plain, "\n") || strings.HasSuffix(plain, "..") || strings.Contains(";,:..", token)
		if !glued {
			plain += " "
		}
		plain += token
		if token == ";" {
			plain += "\n"
		}
	}
	return plain
}

// writer makes texts without faults, of entries that chance chooses.
type writer struct {
	*rand.Rand
	tokens []string
	routes []string
}

func (w *writer) put(tokens ...string) { w.tokens = append(w.tokens, tokens...) }

func (w *writer) number(most int) string {
	n := strconv.Itoa(w.Intn(most + 1))
	return strings.Repeat("0", w.Intn(10-len(n))) + n
}

func (w *writer) list(one func() string) {
	w.put(one())
	for range w.Intn(api.MaxList) {
		w.put(",", one())
	}
}

func (w *writer) route() {
	name := "n" + strconv.Itoa(len(w.routes))
	w.routes = append(w.routes, name)
	w.put("route", name, w.number(api.MaxBase), w.number(api.MaxRate), ";")
}

func (w *writer) span(form func(n int) string, most int) {
	low := w.Intn(most + 1)
	w.put(form(low), "..", form(low+w.Intn(most-low+1)))
}

func (w *writer) rule(i int) {
	w.put("rule", "n"+strconv.Itoa(i), w.number(api.MaxRank), ":", "bin")
	digits := 1 + w.Intn(api.MaxBin)
	most, _ := strconv.Atoi(strings.Repeat("9", digits))
	w.span(func(n int) string {
		text := strconv.Itoa(n)
		return strings.Repeat("0", digits-len(text)) + text
	}, most)
	if w.Intn(2) == 0 {
		w.put("mcc")
		w.list(func() string { return w.number(api.MaxMcc) })
	}
	if w.Intn(2) == 0 {
		w.put("amount")
		w.span(strconv.Itoa, 999999999)
	}
	if w.Intn(2) == 0 {
		w.put("cur")
		w.list(func() string { return w.number(api.MaxCur) })
	}
	w.put("->")
	w.action()
	w.put(";")
}

func (w *writer) action() {
	if len(w.routes) == 0 || w.Intn(4) == 0 {
		w.put("decline")
		return
	}
	if w.Intn(2) == 0 {
		w.put("cheapest")
	}
	w.list(func() string { return w.routes[w.Intn(len(w.routes))] })
}

func writeText(seed int64) string {
	w := &writer{Rand: rand.New(rand.NewSource(seed))}
	routes, rules := w.Intn(api.MaxRoutes+1), w.Intn(api.MaxRules+1)
	for i := 0; i < rules || len(w.routes) < routes; {
		if len(w.routes) < routes && (i == rules || w.Intn(2) == 0) {
			w.route()
		} else {
			w.rule(i)
			i++
		}
	}
	text := ""
	for _, token := range w.tokens {
		text += token + []string{" ", "\n", "\t", "#;\n"}[w.Intn(4)]
	}
	return text
}

func TestPlainTextOfManyTexts(t *testing.T) {
	for seed := range int64(2000) {
		text := writeText(seed)
		wantText(t, text, plainByTokens(text))
	}
}

// checkAny holds for every text whatever.
func checkAny(t *testing.T, text string) {
	t.Helper()
	table, kind, line := junction.Compile(text)
	switch {
	case kind == api.Fine:
		if table == nil || line != 0 {
			t.Fatalf("P2: Compile(%q) = a table: %v, Fine, %d", text, table != nil, line)
		}
		wantText(t, text, plainByTokens(text))
	case table != nil || kind < api.Long || kind > api.Many:
		t.Fatalf("P2: Compile(%q) = a table: %v, %d, %d", text, table != nil, kind, line)
	case (kind == api.Long) != (len(text) > api.MaxText) || (kind == api.Long) != (line == 0):
		t.Fatalf("P2: Compile(%q) = nil, %d, %d", text, kind, line)
	case line < 0 || line > 1+strings.Count(text, "\n"):
		t.Fatalf("P2: Compile(%q) = nil, %d, %d: no such line", text, kind, line)
	}
}

func TestTextsWithOneByteChanged(t *testing.T) {
	for i := range len(example) {
		checkAny(t, example[:i])
		checkAny(t, example[i:])
		checkAny(t, example[:i]+example[i+1:])
		for c := range 256 {
			checkAny(t, example[:i]+string([]byte{byte(c)})+example[i+1:])
		}
	}
}

func FuzzCompile(f *testing.F) {
	f.Add("")
	f.Add(example)
	f.Add(strings.Repeat(example, 20))
	f.Fuzz(checkAny)
}

// The memory of a text may be used anew once Compile has answered.
func TestTextIsNotKept(t *testing.T) {
	memory := []byte(example)
	table := wantFine(t, unsafe.String(&memory[0], len(memory)))
	if string(memory) != example {
		t.Error("P1: the text was changed")
	}
	want := plainByTokens(example)
	for i := range memory {
		memory[i] = 'z'
	}
	if got := table.Text(); got != want {
		t.Errorf("P1: Text() = %q, once the text's memory is used anew", got)
	}
}

// What comes out is new memory: who writes over it changes nothing else.
func TestTextIsNewMemory(t *testing.T) {
	table := wantFine(t, example)
	first := table.Text()
	second := table.Text()
	if unsafe.StringData(first) == unsafe.StringData(second) {
		t.Error("P1: two answers share memory")
	}
}

func TestTablesKnowNothingOfOneAnother(t *testing.T) {
	one := wantFine(t, "route a 1 2;")
	wantFault(t, "route a 1 2; route a 1 2;", api.Name, 1)
	two := wantFine(t, "route a 3 4; rule x 1: bin 1..2 -> a;")
	if got := one.Text(); got != "route a 1 2;\n" {
		t.Errorf("P1: Text() = %q", got)
	}
	if got := two.Text(); got != "route a 3 4;\nrule x 1: bin 1..2 -> a;\n" {
		t.Errorf("P1: Text() = %q", got)
	}
}
