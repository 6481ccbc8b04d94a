package junction_test

import (
	"math/rand"
	"regexp"
	"slices"
	"strconv"
	"strings"
	"sync"
	"testing"
	"unsafe"

	"junction/api"
	"junction/junction"
)

var (
	routeForm = regexp.MustCompile(`^route (\w+) (\d+) (\d+);$`)
	ruleForm  = regexp.MustCompile(`^rule (\w+) (\d+): bin (\d+)\.\.(\d+)(?: mcc (\d+(?:, \d+)*))?(?: amount (\d+)\.\.(\d+))?(?: cur (\d+(?:, \d+)*))? -> (cheapest )?(.*);$`)
)

// plainRule is a line of a plain text, and what stands at each place of it.
type plainRule struct {
	name, low, high, mcc, least, most, cur string
	rank                                   int
	cheapest                               bool
	action                                 string
}

// asker decides by a plain text, line by line.
type asker struct {
	fees  map[string][2]int
	rules []plainRule
}

func number(text string) int {
	n, _ := strconv.Atoi(text)
	return n
}

func newAsker(text string) *asker {
	a := &asker{fees: map[string][2]int{}}
	for line := range strings.Lines(plainByTokens(text)) {
		line = strings.TrimSuffix(line, "\n")
		if m := routeForm.FindStringSubmatch(line); m != nil {
			a.fees[m[1]] = [2]int{number(m[2]), number(m[3])}
			continue
		}
		m := ruleForm.FindStringSubmatch(line)
		a.rules = append(a.rules, plainRule{
			name: m[1], rank: number(m[2]), low: m[3], high: m[4], mcc: m[5], least: m[6], most: m[7], cur: m[8],
			cheapest: m[9] != "", action: m[10],
		})
	}
	return a
}

func listed(list string, n int) bool {
	return list == "" || slices.Contains(strings.Split(list, ", "), strconv.Itoa(n))
}

func (r plainRule) meets(p api.Payment) bool {
	first := p.Pan[:len(r.low)]
	return r.low <= first && first <= r.high && listed(r.mcc, p.Mcc) && listed(r.cur, p.Cur) &&
		(r.most == "" || number(r.least) <= p.Amount && p.Amount <= number(r.most))
}

// decide is asked for payments only.
func (a *asker) decide(p api.Payment, down []string) api.Outcome {
	var best *plainRule
	for i, r := range a.rules {
		if r.meets(p) && (best == nil || r.rank > best.rank) {
			best = &a.rules[i]
		}
	}
	if best == nil {
		return noRule
	}
	if best.action == "decline" {
		return refused(best.name)
	}
	up := slices.DeleteFunc(strings.Split(best.action, ", "), func(name string) bool { return slices.Contains(down, name) })
	if best.cheapest {
		slices.SortStableFunc(up, func(x, y string) int {
			return a.fees[x][0] + a.fees[x][1]*p.Amount - a.fees[y][0] - a.fees[y][1]*p.Amount
		})
	}
	if len(up) == 0 {
		return isDown(best.name)
	}
	return forward(best.name, up[0])
}

// edges tells numbers at which something may change, and next to them.
func edges(most int, texts ...string) []int {
	list := []int{0, most}
	for _, text := range texts {
		for _, part := range strings.Split(text, ", ") {
			for n := number(part) - 1; n <= number(part)+1; n++ {
				if n >= 0 && n <= most {
					list = append(list, n)
				}
			}
		}
	}
	return list
}

// payment draws one next to the edges of a rule.
func (a *asker) payment(r *rand.Rand) api.Payment {
	one := plainRule{low: "4", high: "4"}
	if len(a.rules) > 0 {
		one = a.rules[r.Intn(len(a.rules))]
	}
	draw := func(list []int) int { return list[r.Intn(len(list))] }
	digits := len(one.low)
	p := api.Payment{
		Pan:    ofDigits(draw(edges(number(strings.Repeat("9", digits)), one.low, one.high)), digits),
		Mcc:    draw(edges(api.MaxMcc, one.mcc)),
		Amount: draw(edges(api.MaxAmount, one.least, one.most)),
		Cur:    draw(edges(api.MaxCur, one.cur)),
	}
	for length := api.MinPan + r.Intn(api.MaxPan-api.MinPan+1); len(p.Pan) < length; {
		p.Pan += strconv.Itoa(r.Intn(10))
	}
	return p
}

func drawDown(r *rand.Rand) []string {
	var down []string
	for range r.Intn(8) {
		down = append(down, "n"+strconv.Itoa(r.Intn(api.MaxRoutes+2)))
	}
	return down
}

func TestDecideByDrawnTexts(t *testing.T) {
	kinds := [5]int{}
	for seed := range int64(3000) {
		text := writeText(seed)
		table, asker := wantFine(t, text), newAsker(text)
		r := rand.New(rand.NewSource(seed))
		for range 60 {
			p, down := asker.payment(r), drawDown(r)
			want := asker.decide(p, down)
			wantOutcome(t, table, p, down, want)
			kinds[want.Kind]++
		}
		if t.Failed() {
			t.Fatalf("by the text %q", plainByTokens(text))
		}
	}
	for _, kind := range []int{api.Forward, api.NoRule, api.Refused, api.Down} {
		if kinds[kind] < 1000 {
			t.Errorf("only %d outcomes of the kind %d: the payments are badly drawn", kinds[kind], kind)
		}
	}
}

// nested writes rules that lie within one another, and meet often.
func nested(r *rand.Rand) string {
	text := "route n0 3 1; route n1 5 0; route n2 0 2;"
	for i := range 1 + r.Intn(api.MaxRules) {
		digits := 1 + r.Intn(api.MaxBin)
		base := number("400000"[:digits])
		low := base + r.Intn(3)
		text += "rule r" + strconv.Itoa(i) + " " + strconv.Itoa(r.Intn(3)) + ": bin " + ofDigits(low, digits) + ".." + ofDigits(low+r.Intn(4), digits)
		for j, guard := range []string{" mcc 1, 2", " amount 2..4", " cur 1, 3"} {
			if r.Intn(3+j) == 0 {
				text += guard
			}
		}
		text += " -> " + []string{"decline", "n0", "n1, n0", "cheapest n0, n1, n2", "cheapest n2, n1"}[r.Intn(5)] + ";"
	}
	return text
}

func TestDecideByNestedRules(t *testing.T) {
	for seed := range int64(1500) {
		r := rand.New(rand.NewSource(seed))
		text := nested(r)
		table, asker := wantFine(t, text), newAsker(text)
		for range 100 {
			p := api.Payment{Pan: "4", Mcc: r.Intn(4), Amount: r.Intn(6), Cur: r.Intn(5)}
			for len(p.Pan) < 6 {
				p.Pan += strconv.Itoa(max(0, r.Intn(10)-5))
			}
			down := drawDown(r)
			wantOutcome(t, table, p, down, asker.decide(p, down))
		}
		if t.Failed() {
			t.Fatalf("by the text %q", text)
		}
	}
}

func isDrawnPayment(p api.Payment) bool {
	return regexp.MustCompile(`^[0-9]{6,19}$`).MatchString(p.Pan) && !strings.HasSuffix(p.Pan, "\n") &&
		p.Mcc >= 0 && p.Mcc <= 9999 && p.Amount >= 0 && p.Amount <= 1000000000 && p.Cur >= 0 && p.Cur <= 999
}

func FuzzDecide(f *testing.F) {
	f.Add(example, "411111", 1, 100, 840, "a b q")
	f.Add(example, "4111111111111111111", 5411, 2000, 978, "c,a")
	f.Add(writeText(7), "000000", 0, 0, 0, "")
	f.Fuzz(func(t *testing.T, text, pan string, mcc, amount, cur int, list string) {
		table, _, _ := junction.Compile(text)
		if table == nil {
			return
		}
		p, down, want := api.Payment{Pan: pan, Mcc: mcc, Amount: amount, Cur: cur}, strings.Fields(list), noPayment
		if isDrawnPayment(p) {
			want = newAsker(text).decide(p, down)
		}
		wantOutcome(t, table, p, down, want)
	})
}

// P1: the list is not changed, nor what stands behind it, and not kept.
func TestDownIsLeftAlone(t *testing.T) {
	table := wantFine(t, example)
	p := api.Payment{Pan: "411111", Amount: 300, Cur: 840}
	memory := []string{"ahead", "b", "q", "behind"}
	down := memory[1:3]
	wantOutcome(t, table, p, down, forward("us", "a"))
	if !slices.Equal(memory, []string{"ahead", "b", "q", "behind"}) {
		t.Errorf("P1: what was handed in is %q", memory)
	}
	down[0] = "a"
	wantOutcome(t, table, p, nil, forward("us", "b"))
	wantOutcome(t, table, p, down, forward("us", "b"))
	wantOutcome(t, table, p, []string{"a", "b"}, isDown("us"))
	wantOutcome(t, table, p, nil, forward("us", "b"))
}

// P1: the memory of a text may be used anew once Compile has answered.
func TestDecideKeepsNoText(t *testing.T) {
	memory := []byte(example)
	table := wantFine(t, unsafe.String(&memory[0], len(memory)))
	for i := range memory {
		memory[i] = 'z'
	}
	wantOutcome(t, table, api.Payment{Pan: "411111", Amount: 300, Cur: 840}, []string{"b"}, forward("us", "a"))
}

// P1: who writes over an answer changes nothing else.
func TestOutcomeIsNewMemory(t *testing.T) {
	table := wantFine(t, example)
	p := api.Payment{Pan: "411111", Amount: 2000}
	first := table.Decide(p, nil)
	for _, name := range []string{first.Rule, first.Route} {
		*unsafe.StringData(name) = 'Z'
	}
	wantOutcome(t, table, p, nil, forward("big", "c"))
	if got := table.Text(); got != plainByTokens(example) {
		t.Errorf("P1: Text() = %q, once an answer was written over", got)
	}
}

// P1: tables know nothing of one another, and asking changes nothing.
func TestAskingChangesNothing(t *testing.T) {
	one, two := wantFine(t, "route a 1 1; rule r 1: bin 4..4 -> a;"), wantFine(t, "route a 1 1; rule s 1: bin 4..5 -> a;")
	for range 3 {
		wantOutcome(t, one, card("400000"), []string{"a"}, isDown("r"))
		wantOutcome(t, two, card("400000"), nil, forward("s", "a"))
		wantOutcome(t, one, card("400000"), nil, forward("r", "a"))
		wantOutcome(t, one, card("500000"), nil, noRule)
		wantOutcome(t, one, card("x"), nil, noPayment)
		wantText(t, one.Text(), "route a 1 1;\nrule r 1: bin 4..4 -> a;\n")
	}
}

func TestManyMayAskAtOnce(t *testing.T) {
	table := wantFine(t, example)
	var wait sync.WaitGroup
	for i := range 8 {
		wait.Go(func() {
			for amount := range 500 {
				p := api.Payment{Pan: "411111", Amount: amount + 1000*(i%2), Cur: 840}
				if i%2 == 1 {
					wantOutcome(t, table, p, []string{"c"}, forward("big", "a"))
				} else if amount < 245 {
					wantOutcome(t, table, p, nil, forward("us", "a"))
				}
			}
		})
	}
	wait.Wait()
}
