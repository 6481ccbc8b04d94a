package junction_test

import (
	"fmt"
	"math"
	"slices"
	"strconv"
	"strings"
	"testing"

	"junction/api"
	"junction/junction"
)

func wantOutcome(t *testing.T, table *junction.Table, p api.Payment, down []string, want api.Outcome) {
	t.Helper()
	if got := table.Decide(p, down); got != want {
		t.Errorf("P4: Decide(%+v, %q) = %+v, want %+v", p, down, got, want)
	}
}

func forward(rule, route string) api.Outcome {
	return api.Outcome{Kind: api.Forward, Rule: rule, Route: route}
}

func refused(rule string) api.Outcome { return api.Outcome{Kind: api.Refused, Rule: rule} }

func isDown(rule string) api.Outcome { return api.Outcome{Kind: api.Down, Rule: rule} }

var (
	noPayment = api.Outcome{Kind: api.Format}
	noRule    = api.Outcome{Kind: api.NoRule}
)

// card makes a payment of 1, of which only the card is of interest.
func card(pan string) api.Payment { return api.Payment{Pan: pan, Mcc: 1, Amount: 1, Cur: 1} }

func TestKindsOfOutcomes(t *testing.T) {
	if api.Forward != 0 || api.Format != 1 || api.NoRule != 2 || api.Refused != 3 || api.Down != 4 {
		t.Error("a kind of outcomes has another number than the document says")
	}
}

func TestDecideExample(t *testing.T) {
	table := wantFine(t, example)
	for _, c := range []struct {
		mcc, amount, cur int
		down             string
		want             api.Outcome
	}{
		{1, 100, 840, "", forward("us", "a")},
		{1, 300, 840, "", forward("us", "b")},
		{1, 300, 840, "b", forward("us", "a")},
		{1, 300, 840, "c", forward("us", "b")},
		{1, 300, 840, "a b", isDown("us")},
		{1, 2000, 840, "", forward("big", "c")},
		{1, 2000, 840, "c", forward("big", "a")},
		{1, 2000, 840, "c a", isDown("big")},
		{1, 2000, 840, "a b c", isDown("big")},
		{1, 999, 840, "c", forward("us", "b")},
		{1, 1000, 840, "", forward("big", "c")},
		{1, 1000000, 840, "", forward("big", "c")},
		{1, 1000001, 840, "", forward("us", "b")},
		{1, 1, 978, "", refused("no")},
		{1, 1, 978, "a b c", refused("no")},
		{5411, 1, 978, "", refused("no")},
	} {
		p := api.Payment{Pan: "411111", Mcc: c.mcc, Amount: c.amount, Cur: c.cur}
		wantOutcome(t, table, p, strings.Fields(c.down), c.want)
	}
	wantOutcome(t, table, card("510000"), nil, noRule)
	wantOutcome(t, table, card("5100000000000000000"), []string{"a", "b", "c"}, noRule)
	wantOutcome(t, table, card("399999"), nil, noRule)
}

func TestWithoutRules(t *testing.T) {
	for _, text := range []string{"", "route a 1 2;"} {
		table := wantFine(t, text)
		for _, pan := range []string{"000000", "999999", "4111111111111111"} {
			wantOutcome(t, table, card(pan), []string{"a"}, noRule)
		}
		wantOutcome(t, table, card("99999"), nil, noPayment)
	}
}

// everyCard is three tables that answer a payment each in their way.
func everyCard(t *testing.T) map[string]*junction.Table {
	return map[string]*junction.Table{
		"":  wantFine(t, ""),
		"x": wantFine(t, "route a 1 1; rule x 1: bin 0..9 -> a;"),
		"y": wantFine(t, "rule y 1: bin 000000..999999 -> decline;"),
	}
}

func wantPayment(t *testing.T, p api.Payment, is bool) {
	t.Helper()
	for name, table := range everyCard(t) {
		want := noPayment
		switch {
		case is && name == "":
			want = noRule
		case is && name == "x":
			want = forward("x", "a")
		case is:
			want = refused("y")
		}
		wantOutcome(t, table, p, nil, want)
	}
}

func TestLengthOfPan(t *testing.T) {
	for n := range 30 {
		for _, digit := range []string{"0", "4", "9"} {
			wantPayment(t, card(strings.Repeat(digit, n)), n >= 6 && n <= 19)
		}
	}
	wantPayment(t, card(strings.Repeat("4", 1<<20)), false)
}

func TestBytesOfPan(t *testing.T) {
	for _, n := range []int{6, 7, 18, 19} {
		for i := range n {
			for c := range 256 {
				pan := []byte(strings.Repeat("4", n))
				pan[i] = byte(c)
				wantPayment(t, card(string(pan)), c >= '0' && c <= '9')
			}
		}
	}
	for _, pan := range []string{" 411111", "411111 ", "411111\n", "+411111", "-411111", "4111.11", "４１１１１１", "४४४४४४", "41111१", "\x00411111", "411111\x00"} {
		wantPayment(t, card(pan), false)
	}
}

func TestLimitsOfNumbers(t *testing.T) {
	for _, c := range []struct {
		most  int
		field func(p *api.Payment) *int
	}{
		{9999, func(p *api.Payment) *int { return &p.Mcc }},
		{1000000000, func(p *api.Payment) *int { return &p.Amount }},
		{999, func(p *api.Payment) *int { return &p.Cur }},
	} {
		for _, n := range []int{0, 1, c.most - 1, c.most, -1, c.most + 1, math.MaxInt, math.MinInt, math.MaxInt32, math.MinInt32, 1 << 32} {
			p := card("411111")
			*c.field(&p) = n
			wantPayment(t, p, n >= 0 && n <= c.most)
		}
	}
	wantPayment(t, api.Payment{Pan: "000000"}, true)
	wantPayment(t, api.Payment{Pan: "9999999999999999999", Mcc: 9999, Amount: 1000000000, Cur: 999}, true)
	wantPayment(t, api.Payment{}, false)
}

func ofDigits(n, digits int) string { return fmt.Sprintf("%0*d", digits, n) }

// wantRange asks for the numbers next to the ends of a range, on both sides,
// with the least, the greatest and more digits behind them.
func wantRange(t *testing.T, digits, low, high, size int) {
	t.Helper()
	table := wantFine(t, "rule r 1: bin "+ofDigits(low, digits)+".."+ofDigits(high, digits)+" -> decline;")
	for _, n := range []int{0, low - 1, low, low + 1, (low + high) / 2, high - 1, high, high + 1, size - 1} {
		if n < 0 || n >= size {
			continue
		}
		want := noRule
		if n >= low && n <= high {
			want = refused("r")
		}
		first := ofDigits(n, digits)
		for _, length := range []int{6, 7, 19} {
			for _, digit := range []string{"0", "5", "9"} {
				wantOutcome(t, table, card(first+strings.Repeat(digit, length-digits)), nil, want)
			}
		}
	}
}

func TestEndsOfRanges(t *testing.T) {
	size := 1
	for digits := 1; digits <= 6; digits++ {
		size *= 10
		for _, low := range []int{0, 1, 4, 9, size / 10, size/10 - 1, size/2 - 1, size / 2, size - 10, size - 9, size - 2, size - 1} {
			for _, high := range []int{low, low + 1, low + 8, low + 9, low + 10, size/2 - 1, size / 2, size*9/10 - 1, size - 2, size - 1} {
				if low >= 0 && low <= high && high < size {
					wantRange(t, digits, low, high, size)
				}
			}
		}
	}
}

func TestEveryRangeOfTwoDigits(t *testing.T) {
	for low := range 100 {
		for high := low; high < 100; high++ {
			table := wantFine(t, "rule r 1: bin "+ofDigits(low, 2)+".."+ofDigits(high, 2)+" -> decline;")
			for n := range 100 {
				want := noRule
				if n >= low && n <= high {
					want = refused("r")
				}
				wantOutcome(t, table, card(ofDigits(n, 2)+"9999"), nil, want)
			}
		}
	}
}

func TestNoughtsAheadInRanges(t *testing.T) {
	table := wantFine(t, "rule a 1: bin 5..5 -> decline; rule b 1: bin 05..05 -> decline; rule c 1: bin 0005..0009 -> decline; rule d 1: bin 000000..000001 -> decline;")
	for pan, want := range map[string]api.Outcome{
		"500000": refused("a"),
		"050000": refused("b"),
		"005000": noRule,
		"000499": noRule,
		"000500": refused("c"),
		"000999": refused("c"),
		"001000": noRule,
		"000005": noRule,
		"000000": refused("d"),
		"000001": refused("d"),
		"000002": noRule,
		"010000": noRule,
	} {
		wantOutcome(t, table, card(pan), nil, want)
		wantOutcome(t, table, card(pan+"5"), nil, want)
	}
}

func TestLists(t *testing.T) {
	table := wantFine(t, "rule m 2: bin 4..4 mcc 9999, 0, 7, 5411 -> decline; rule c 1: bin 4..4 cur 999, 0, 840, 7 -> decline;")
	for n := range 1000 {
		want := noRule
		if slices.Contains([]int{999, 0, 840, 7}, n) {
			want = refused("c")
		}
		wantOutcome(t, table, api.Payment{Pan: "400000", Mcc: 1, Cur: n}, nil, want)
	}
	for n := range 10000 {
		want := noRule
		if slices.Contains([]int{9999, 0, 7, 5411}, n) {
			want = refused("m")
		}
		wantOutcome(t, table, api.Payment{Pan: "400000", Mcc: n, Cur: 1}, nil, want)
	}
}

func TestAmounts(t *testing.T) {
	table := wantFine(t, "rule a 1: bin 4..4 amount 0..0 -> decline; rule b 1: bin 4..4 amount 10..20 -> decline; rule c 1: bin 4..4 amount 999999999..999999999 -> decline; rule d 0: bin 40..40 -> decline;")
	for amount, want := range map[int]api.Outcome{
		0: refused("a"), 1: noRule, 9: noRule, 10: refused("b"), 11: refused("b"), 20: refused("b"), 21: noRule,
		999999998: noRule, 999999999: refused("c"), 1000000000: noRule,
	} {
		wantOutcome(t, table, api.Payment{Pan: "410000", Amount: amount}, nil, want)
		if want == noRule {
			want = refused("d")
		}
		wantOutcome(t, table, api.Payment{Pan: "400000", Amount: amount}, nil, want)
	}
}

// Each guard that does not hold leaves the payment to the next rule.
func TestAllGuardsMustHold(t *testing.T) {
	table := wantFine(t, "rule all 9: bin 40..41 mcc 1, 2 amount 3..4 cur 5, 6 -> decline; rule else 1: bin 4..5 -> decline;")
	for _, pan := range []string{"400000", "419999", "420000", "500000"} {
		for _, mcc := range []int{0, 1, 2, 3, 5} {
			for amount := 2; amount <= 5; amount++ {
				for cur := 4; cur <= 7; cur++ {
					want := refused("else")
					if pan < "42" && (mcc == 1 || mcc == 2) && (amount == 3 || amount == 4) && (cur == 5 || cur == 6) {
						want = refused("all")
					}
					wantOutcome(t, table, api.Payment{Pan: pan, Mcc: mcc, Amount: amount, Cur: cur}, nil, want)
				}
			}
		}
	}
}

func TestGreatestRankDecides(t *testing.T) {
	for _, ranks := range [][]int{{0, 1000, 999}, {1, 2, 10}, {10, 9, 8}, {5, 5, 5}, {5, 5, 6}, {5, 6, 6}, {6, 5, 6}, {0, 0, 0}, {999, 1000, 1000}} {
		best := slices.Index(ranks, slices.Max(ranks))
		text := ""
		for i, rank := range ranks {
			text += fmt.Sprintf("rule r%d %d: bin %s -> decline;", i, rank, []string{"4..4", "40..41", "400000..400000"}[i])
		}
		table := wantFine(t, text)
		wantOutcome(t, table, card("400000"), nil, refused("r"+strconv.Itoa(best)))
		best = slices.Index(ranks[:2], slices.Max(ranks[:2]))
		wantOutcome(t, table, card("400001"), nil, refused("r"+strconv.Itoa(best)))
		wantOutcome(t, table, card("420000"), nil, refused("r0"))
	}
}

// Names and where routes stand have no say in which rule decides.
func TestEqualRanksGoByTheText(t *testing.T) {
	table := wantFine(t, "rule z 3: bin 4..4 mcc 1 -> decline; route b 1 1; rule y 3: bin 4..4 cur 1 -> b; route a 1 1; rule a 3: bin 4..4 -> a; rule b 3: bin 4..5 -> b; rule c 2: bin 0..9 -> a;")
	for _, c := range []struct {
		pan      string
		mcc, cur int
		want     api.Outcome
	}{
		{"4", 1, 1, refused("z")},
		{"4", 0, 1, forward("y", "b")},
		{"4", 0, 0, forward("a", "a")},
		{"5", 1, 1, forward("b", "b")},
		{"6", 1, 1, forward("c", "a")},
	} {
		wantOutcome(t, table, api.Payment{Pan: c.pan + "00000", Mcc: c.mcc, Cur: c.cur}, nil, c.want)
	}
}

func TestFirstRouteThatIsUp(t *testing.T) {
	table := wantFine(t, "route a 0 0; route b 9 9; route c 5 5; route d 1 1; rule r 1: bin 4..4 -> c, a, d, b;")
	for _, c := range []struct{ down, route string }{
		{"", "c"}, {"a b d", "c"}, {"c", "a"}, {"c a", "d"}, {"a c", "d"}, {"d c a", "b"}, {"c b", "a"}, {"a b c d", ""}, {"d c b a", ""},
	} {
		want := forward("r", c.route)
		if c.route == "" {
			want = isDown("r")
		}
		wantOutcome(t, table, card("400000"), strings.Fields(c.down), want)
	}
}

// A rule whose routes are all down decides all the same.
func TestDownDoesNotGoOn(t *testing.T) {
	table := wantFine(t, "route a 0 0; route b 0 0; rule r 2: bin 4..4 -> a; rule s 1: bin 4..4 -> b; rule c 3: bin 5..5 -> cheapest a; rule d 1: bin 5..5 -> b;")
	wantOutcome(t, table, card("400000"), []string{"a"}, isDown("r"))
	wantOutcome(t, table, card("500000"), []string{"a"}, isDown("c"))
}

func TestCheapest(t *testing.T) {
	const routes = "route a 10 0; route b 0 1; route c 5 1; route d 10 0; route e 1000000 1000; route f 0 1000;"
	for _, c := range []struct {
		list, down string
		amount     int
		route      string
	}{
		{"a, b", "", 9, "b"},
		{"a, b", "", 10, "a"},
		{"b, a", "", 10, "b"},
		{"a, b", "", 11, "a"},
		{"b, a", "", 11, "a"},
		{"c, a", "", 5, "c"},
		{"a, c", "", 5, "a"},
		{"a, d", "", 0, "a"},
		{"d, a", "", 0, "d"},
		{"d, a", "d", 0, "a"},
		{"d, a", "a", 0, "d"},
		{"a, b, c, d", "", 0, "b"},
		{"a, b, c, d", "b", 0, "c"},
		{"a, b, c, d", "b c", 0, "a"},
		{"a, b, c, d", "a b c", 0, "d"},
		{"a, b, c, d", "a b c d", 0, ""},
		{"e, f", "", 1000000000, "f"},
		{"f, e", "", 1000000000, "f"},
		{"e, a", "", 1000000000, "a"},
		{"e, b", "", 1000000000, "b"},
		{"e, f", "f", 1000000000, "e"},
		{"e, e, e, e", "", 0, "e"},
		{"a", "", 7, "a"},
		{"a", "a", 7, ""},
	} {
		table := wantFine(t, routes+"rule r 1: bin 4..4 -> cheapest "+c.list+";")
		want := forward("r", c.route)
		if c.route == "" {
			want = isDown("r")
		}
		wantOutcome(t, table, api.Payment{Pan: "400000", Amount: c.amount}, strings.Fields(c.down), want)
	}
}

func TestNamesThatMeanNothing(t *testing.T) {
	table := wantFine(t, "route a 1 1; route b 2 2; rule r 1: bin 4..4 -> a, b; rule b 1: bin 5..5 -> cheapest b, a;")
	for _, down := range [][]string{
		nil, {}, {""}, {"q"}, {"r"}, {"A"}, {"a "}, {" a"}, {"aa"}, {"a,b"}, {"a b"}, {"a\x00"}, {"route"}, {"\xff"}, {"r", "", "q", "q"}, {strings.Repeat("a", 1<<16)},
	} {
		wantOutcome(t, table, card("400000"), down, forward("r", "a"))
		wantOutcome(t, table, card("500000"), down, forward("b", "a"))
		wantOutcome(t, table, card("400000"), append(down[:len(down):len(down)], "a"), forward("r", "b"))
		wantOutcome(t, table, card("400000"), append([]string{"a", "b", "a"}, down...), isDown("r"))
	}
	many := slices.Repeat([]string{"q", "b"}, 100000)
	wantOutcome(t, table, card("400000"), many, forward("r", "a"))
	wantOutcome(t, table, card("400000"), append(many, "a"), isDown("r"))
}
