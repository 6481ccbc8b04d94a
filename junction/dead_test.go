package junction_test

import (
	"fmt"
	"math/big"
	"math/rand"
	"slices"
	"strings"
	"sync"
	"testing"
	"unsafe"

	"junction/api"
	"junction/junction"
)

func wantDead(t *testing.T, text, want string) {
	t.Helper()
	table := wantFine(t, text)
	for range 2 {
		if got := strings.Join(table.Dead(), " "); got != want {
			t.Errorf("P6: Dead() of %q = %q, want %q", text, got, want)
		}
	}
}

// box is the payments that some rules all meet: from one to another number
// on two sides, one of a list on the others (nil: every number).
type box struct {
	card, amount [2]int
	mcc, cur     []string
}

func boxOf(r plainRule) box {
	b := box{amount: [2]int{0, api.MaxAmount}}
	b.card = [2]int{number((r.low + "000000")[:6]), number((r.high + "999999")[:6])}
	if r.most != "" {
		b.amount = [2]int{number(r.least), number(r.most)}
	}
	if r.mcc != "" {
		b.mcc = strings.Split(r.mcc, ", ")
	}
	if r.cur != "" {
		b.cur = strings.Split(r.cur, ", ")
	}
	return b
}

func both(x, y []string) []string {
	switch {
	case x == nil:
		return y
	case y == nil:
		return x
	}
	return slices.DeleteFunc(slices.Clone(x), func(n string) bool { return !slices.Contains(y, n) })
}

func (b box) and(c box) box {
	return box{
		card:   [2]int{max(b.card[0], c.card[0]), min(b.card[1], c.card[1])},
		amount: [2]int{max(b.amount[0], c.amount[0]), min(b.amount[1], c.amount[1])},
		mcc:    both(b.mcc, c.mcc),
		cur:    both(b.cur, c.cur),
	}
}

func different(list []string, all int) int {
	if list == nil {
		return all
	}
	return len(slices.Compact(slices.Sorted(slices.Values(list))))
}

// count tells how many payments there are (by six digits of their cards).
func (b box) count() *big.Int {
	n := big.NewInt(1)
	for _, side := range []int{
		max(0, b.card[1]-b.card[0]+1), max(0, b.amount[1]-b.amount[0]+1),
		different(b.mcc, api.MaxMcc+1), different(b.cur, api.MaxCur+1),
	} {
		n.Mul(n, big.NewInt(int64(side)))
	}
	return n
}

// without counts the payments of a box that are in none of the others: those
// of each other are taken away, but for those that one ahead of it has taken.
func (b box) without(others []box) *big.Int {
	n := b.count()
	for i, o := range others {
		if n.Sign() == 0 {
			return n
		}
		n.Sub(n, b.and(o).without(others[:i]))
	}
	return n
}

func pairsByCounting(rules []plainRule) []string {
	var pairs []string
	for i, first := range rules {
		for _, second := range rules[i+1:] {
			if boxOf(first).and(boxOf(second)).count().Sign() > 0 {
				pairs = append(pairs, first.name+"-"+second.name)
			}
		}
	}
	return pairs
}

func deadByCounting(rules []plainRule) []string {
	var dead []string
	for i, r := range rules {
		var ahead []box
		for j, o := range rules {
			if o.rank > r.rank || o.rank == r.rank && j < i {
				ahead = append(ahead, boxOf(o))
			}
		}
		if boxOf(r).without(ahead).Sign() == 0 {
			dead = append(dead, r.name)
		}
	}
	return dead
}

func TestDeadOfTheExample(t *testing.T) { wantDead(t, example, "low") }

func TestFewRulesAreNotDead(t *testing.T) {
	for _, text := range []string{"", "route a 1 1;", "rule a 0: bin 0..9 -> decline;", "route a 1 1; rule a 0: bin 000000..000000 mcc 1 amount 2..2 cur 4 -> a;"} {
		wantDead(t, text, "")
	}
}

func TestRanksSayWhoIsDead(t *testing.T) {
	for _, c := range []struct {
		ranks [2]int
		dead  string
	}{
		{[2]int{0, 0}, "b"}, {[2]int{1, 0}, "b"}, {[2]int{0, 1}, "a"}, {[2]int{1000, 999}, "b"}, {[2]int{999, 1000}, "a"}, {[2]int{2, 10}, "a"},
	} {
		for _, guards := range []string{"bin 4..4", "bin 4..4 mcc 1 amount 2..3 cur 4, 5", "bin 400000..400000"} {
			text := fmt.Sprintf("rule a %d: %s -> decline; rule b %d: %s -> decline;", c.ranks[0], guards, c.ranks[1], guards)
			wantDead(t, text, c.dead)
		}
	}
}

func TestWhatEqualRulesAheadLeave(t *testing.T) {
	for _, c := range []struct{ first, second, dead string }{
		{"bin 4..4", "bin 40..49", "b"},
		{"bin 40..49", "bin 4..4", "b"},
		{"bin 400000..499999", "bin 4..4", "b"},
		{"bin 400000..499998", "bin 4..4", ""},
		{"bin 400001..499999", "bin 4..4", ""},
		{"bin 400001..499999", "bin 40000..49999", ""},
		{"bin 400000..400009", "bin 40000..40000", "b"},
		{"bin 4..4", "bin 3..4", ""},
		{"bin 4..4", "bin 4..5", ""},
		{"bin 4..4", "bin 04..04", ""},
		{"bin 4..4 mcc 1", "bin 4..4", ""},
		{"bin 4..4", "bin 4..4 mcc 1", "b"},
		{"bin 4..4 mcc 1, 2", "bin 4..4 mcc 2", "b"},
		{"bin 4..4 mcc 1, 2", "bin 4..4 mcc 2, 1, 2, 1", "b"},
		{"bin 4..4 mcc 1, 2", "bin 4..4 mcc 2, 3", ""},
		{"bin 4..4 mcc 0, 9999", "bin 4..4 mcc 9999, 0", "b"},
		{"bin 4..4 cur 1, 2", "bin 4..4 cur 2", "b"},
		{"bin 4..4 cur 1, 2", "bin 4..4 cur 2, 3", ""},
		{"bin 4..4 cur 0, 1, 2, 999", "bin 4..4", ""},
		{"bin 4..4 mcc 1", "bin 4..4 cur 1", ""},
		{"bin 4..4 amount 3..7", "bin 4..4 amount 3..7", "b"},
		{"bin 4..4 amount 3..7", "bin 4..4 amount 4..6", "b"},
		{"bin 4..4 amount 3..7", "bin 4..4 amount 2..6", ""},
		{"bin 4..4 amount 3..7", "bin 4..4 amount 4..8", ""},
		{"bin 4..4 amount 0..0", "bin 4..4 amount 0..0", "b"},
		{"bin 4..4 amount 0..999999999", "bin 4..4 amount 999999999..999999999", "b"},
	} {
		wantDead(t, rulesOf(c.first, c.second), c.dead)
	}
}

// The payments of 1000000000 are left: no guard can ask for them.
func TestNoAmountsAreAllAmounts(t *testing.T) {
	wantDead(t, rulesOf("bin 4..4 amount 0..999999999", "bin 4..4"), "")
	wantDead(t, rulesOf("bin 4..4 amount 0..999999999", "bin 4..4", "bin 4..4 amount 1..1", "bin 4..4"), "c d")
}

func TestSeveralTogetherLeaveNothing(t *testing.T) {
	for _, c := range []struct{ ahead, last, dead string }{
		{"bin 30..34|bin 35..39", "bin 3..3", "dead"},
		{"bin 30..34|bin 36..39", "bin 3..3", ""},
		{"bin 30..34|bin 350000..399998", "bin 3..3", ""},
		{"bin 30..34|bin 35..38|bin 390..398|bin 3990..3998|bin 39990..39998|bin 399990..399999", "bin 3..3", "dead"},
		{"bin 30..34|bin 35..38|bin 390..398|bin 3990..3998|bin 39990..39998|bin 399990..399998", "bin 3..3", ""},
		{"bin 0..3|bin 5..9", "bin 0..9", ""},
		{"bin 5..9|bin 0..3|bin 40..49", "bin 0..9", "dead"},
		{"bin 3..3 amount 0..6|bin 3..3 amount 7..100", "bin 3..3 amount 5..9", "dead"},
		{"bin 3..3 amount 0..6|bin 3..3 amount 8..100", "bin 3..3 amount 5..9", ""},
		{"bin 3..3 amount 0..6|bin 30..38 amount 7..100", "bin 3..3 amount 5..9", ""},
		{"bin 3..3 amount 0..6|bin 30..38 amount 7..100|bin 39..39", "bin 3..3 amount 5..9", "dead"},
		{"bin 3..3 mcc 1|bin 3..3 mcc 2", "bin 3..3 mcc 1, 2", "dead"},
		{"bin 3..3 mcc 1|bin 3..3 mcc 2", "bin 3..3 mcc 1, 2, 3", ""},
		{"bin 3..3 mcc 2|bin 3..3 mcc 1 cur 5", "bin 3..3 mcc 1, 2", ""},
		{"bin 3..3 mcc 2|bin 3..3 mcc 1 cur 5", "bin 3..3 mcc 1, 2 cur 5", "dead"},
		{"bin 3..3 cur 1|bin 3..3 cur 2, 3|bin 3..3 cur 4", "bin 3..3 cur 4, 3, 2, 1", "dead"},
		{"bin 3..3 cur 1|bin 3..3 cur 2, 3|bin 3..3 cur 5", "bin 3..3 cur 4, 3, 2, 1", ""},
		{"bin 3..3 mcc 1 cur 1|bin 3..3 mcc 2 cur 2", "bin 3..3 mcc 1, 2 cur 1, 2", ""},
		{"bin 3..3 mcc 1 cur 1|bin 3..3 mcc 2 cur 2|bin 3..3 mcc 1 cur 2|bin 3..3 mcc 2 cur 1", "bin 3..3 mcc 1, 2 cur 1, 2", "dead"},
		{"bin 3..3 mcc 1 amount 0..5|bin 3..3 mcc 1 amount 6..9|bin 3..3 mcc 2 amount 2..8", "bin 3..3 mcc 1, 2 amount 2..9", ""},
		{"bin 3..3 mcc 1 amount 0..5|bin 3..3 mcc 1 amount 6..9|bin 3..3 mcc 2 amount 2..8", "bin 3..3 mcc 1, 2 amount 2..8", "dead"},
	} {
		above, behind := "", ""
		for i, guards := range strings.Split(c.ahead, "|") {
			above += fmt.Sprintf("rule r%d 2: %s -> decline;", i, guards)
			behind += fmt.Sprintf("rule r%d 0: %s -> decline;", i, guards)
		}
		last := "rule dead 1: " + c.last + " -> decline;"
		wantDead(t, above+last, c.dead)
		wantDead(t, last+above, c.dead)
		wantDead(t, strings.ReplaceAll(above, " 2:", " 1:")+last, c.dead)
		if got := wantFine(t, behind+last).Dead(); slices.Contains(got, "dead") {
			t.Errorf("P6: %q are dead by rules of less rank, of %q", got, behind+last)
		}
	}
}

func TestDeadGoByTheText(t *testing.T) {
	wantDead(t, "rule z 1: bin 4..4 -> decline; route q 1 1; rule y 3: bin 40..40 -> q; rule x 9: bin 4..5 -> decline; rule a 2: bin 5..5 -> q; rule b 2: bin 6..6 -> q;", "z y a")
	wantDead(t, rulesOf("bin 0..9", "bin 1..1", "bin 0..9", "bin 2..2", "bin 0..9", "bin 3..3", "bin 0..9", "bin 4..4"), "b c d e f g h")
}

func TestRoutesHaveNoSay(t *testing.T) {
	wantDead(t, "route a 0 0; rule r 2: bin 4..4 -> a; rule s 1: bin 4..4 -> cheapest a; rule u 1: bin 40..50 -> a;", "s")
}

func TestDeadOfDrawnTexts(t *testing.T) {
	dead, alive := 0, 0
	for seed := range int64(2000) {
		for _, text := range []string{writeText(seed), nested(rand.New(rand.NewSource(seed))), crowded(rand.New(rand.NewSource(seed)))} {
			rules := newAsker(text).rules
			want := deadByCounting(rules)
			wantDead(t, text, strings.Join(want, " "))
			dead, alive = dead+len(want), alive+len(rules)-len(want)
		}
		if t.Failed() {
			t.FailNow()
		}
	}
	if dead < 1000 || alive < 1000 {
		t.Errorf("%d rules are dead, %d are not: the texts are badly drawn", dead, alive)
	}
}

// crowded writes rules that only together leave nothing to others.
func crowded(r *rand.Rand) string {
	text := ""
	for i := range api.MaxRules {
		low := r.Intn(4)
		text += fmt.Sprintf("rule r%d %d: bin 4%d..4%d", i, r.Intn(4), low, low+r.Intn(4-low))
		if r.Intn(3) == 0 {
			text += fmt.Sprintf(" mcc %d, %d", r.Intn(3), r.Intn(3))
		}
		if r.Intn(3) == 0 {
			least := r.Intn(4)
			text += fmt.Sprintf(" amount %d..%d", least, least+r.Intn(3))
		}
		if r.Intn(3) == 0 {
			text += fmt.Sprintf(" cur %d, %d", r.Intn(2), r.Intn(3))
		}
		text += " -> decline;"
	}
	return text
}

// A rule that is dead is never the one that Decide names.
func TestDeadRulesDecideNothing(t *testing.T) {
	for seed := range int64(500) {
		r := rand.New(rand.NewSource(seed))
		text := crowded(r)
		table, asker := wantFine(t, text), newAsker(text)
		dead := table.Dead()
		for range 100 {
			p := asker.payment(r)
			if got := table.Decide(p, nil); slices.Contains(dead, got.Rule) {
				t.Fatalf("P6: Dead() of %q = %q, but %+v: %+v", text, dead, p, got)
			}
		}
	}
}

func FuzzRulesThatMeet(f *testing.F) {
	f.Add(example)
	f.Add(writeText(7))
	f.Add(crowded(rand.New(rand.NewSource(7))))
	f.Fuzz(func(t *testing.T, text string) {
		if table, _, _ := junction.Compile(text); table == nil {
			return
		}
		rules := newAsker(text).rules
		wantOverlaps(t, text, strings.Join(pairsByCounting(rules), " "))
		wantDead(t, text, strings.Join(deadByCounting(rules), " "))
	})
}

// P1: who writes over an answer, or behind it, changes nothing else.
func TestDeadIsNewMemory(t *testing.T) {
	table := wantFine(t, example)
	first := table.Dead()
	for _, name := range first {
		*unsafe.StringData(name) = 'Z'
	}
	clear(first[:cap(first)])
	if got := table.Dead(); !slices.Equal(got, []string{"low"}) {
		t.Errorf("P1: Dead() = %q, once an answer was written over", got)
	}
	if got := table.Text(); got != plainByTokens(example) {
		t.Errorf("P1: Text() = %q, once an answer was written over", got)
	}
}

// P1: the memory of a text may be used anew once Compile has answered.
func TestRulesThatMeetKeepNoText(t *testing.T) {
	memory := []byte(example)
	table := wantFine(t, unsafe.String(&memory[0], len(memory)))
	for i := range memory {
		memory[i] = 'z'
	}
	if got := table.Dead(); !slices.Equal(got, []string{"low"}) {
		t.Errorf("P1: Dead() = %q, once the text's memory is used anew", got)
	}
	if !slices.Equal(table.Overlaps(), wantFine(t, example).Overlaps()) {
		t.Errorf("P1: Overlaps() = %+v, once the text's memory is used anew", table.Overlaps())
	}
}

// P1: nothing that is asked of a table changes what it tells.
func TestAskingWhatMeetsChangesNothing(t *testing.T) {
	one, two := wantFine(t, example), wantFine(t, rulesOf("bin 4..4", "bin 4..4"))
	overlaps, dead := one.Overlaps(), one.Dead()
	var wait sync.WaitGroup
	for range 4 {
		wait.Go(func() {
			for range 50 {
				if len(two.Overlaps()) != 1 || !slices.Equal(two.Dead(), []string{"b"}) {
					t.Error("P1: the other table tells something else")
				}
				if !slices.Equal(one.Overlaps(), overlaps) || !slices.Equal(one.Dead(), dead) {
					t.Error("P1: the table tells something else than it did")
				}
				wantOutcome(t, one, api.Payment{Pan: "411111", Amount: 300, Cur: 840}, nil, forward("us", "b"))
				if got := one.Text(); got != plainByTokens(example) {
					t.Errorf("P1: Text() = %q", got)
				}
			}
		})
	}
	wait.Wait()
}
