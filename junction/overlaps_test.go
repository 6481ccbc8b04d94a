package junction_test

import (
	"math/rand"
	"strconv"
	"strings"
	"testing"
	"unsafe"

	"junction/api"
)

// wantOverlaps asks for pairs ("a-b c-d"), in their order, and that each
// witness is a payment that both rules meet.
func wantOverlaps(t *testing.T, text, want string) {
	t.Helper()
	table, byName := wantFine(t, text), map[string]plainRule{}
	for _, r := range newAsker(text).rules {
		byName[r.name] = r
	}
	got, again := table.Overlaps(), table.Overlaps()
	var pairs []string
	for i, o := range got {
		pairs = append(pairs, o.First+"-"+o.Second)
		if !isDrawnPayment(o.Witness) {
			t.Errorf("P5: of %q: the witness of %+v is no payment", text, o)
		} else if !byName[o.First].meets(o.Witness) || !byName[o.Second].meets(o.Witness) {
			t.Errorf("P5: of %q: not both rules meet the witness of %+v", text, o)
		}
		if len(again) != len(got) || again[i] != o {
			t.Errorf("P5: of %q: once %+v, then %+v", text, got, again)
		}
	}
	if list := strings.Join(pairs, " "); list != want {
		t.Errorf("P5: Overlaps() of %q = %q, want %q", text, list, want)
	}
}

// rulesOf writes rules a, b, c .. of rank 1 with these guards, that decline.
func rulesOf(guards ...string) string {
	text := ""
	for i, g := range guards {
		text += "rule " + string(rune('a'+i)) + " 1: " + g + " -> decline;\n"
	}
	return text
}

// wantMeet asks whether two rules meet, in both orders.
func wantMeet(t *testing.T, one, two string, meet bool) {
	t.Helper()
	want := ""
	if meet {
		want = "a-b"
	}
	wantOverlaps(t, rulesOf(one, two), want)
	wantOverlaps(t, rulesOf(two, one), want)
}

func TestOverlapsOfTheExample(t *testing.T) {
	wantOverlaps(t, example, "us-big us-no us-low big-no big-low no-low")
}

func TestFewRulesHaveNoOverlaps(t *testing.T) {
	for _, text := range []string{"", "route a 1 1;", "rule a 1: bin 0..9 -> decline;", "route a 1 1; rule a 1: bin 000000..000000 mcc 1 amount 2..3 cur 4 -> a;"} {
		wantOverlaps(t, text, "")
	}
}

func TestRangesThatMeet(t *testing.T) {
	for _, c := range []struct {
		one, two string
		meet     bool
	}{
		{"4..4", "4..4", true},
		{"4..4", "5..5", false},
		{"0..4", "5..9", false},
		{"0..5", "5..9", true},
		{"0..9", "000000..000000", true},
		{"0..9", "999999..999999", true},
		{"0..0", "9..9", false},
		{"4..4", "40..40", true},
		{"4..4", "49..49", true},
		{"4..4", "39..39", false},
		{"4..4", "50..50", false},
		{"4..4", "4..5", true},
		{"4..4", "04..04", false},
		{"4..4", "000004..000004", false},
		{"0..0", "000004..000004", true},
		{"40..49", "400000..400000", true},
		{"40..49", "499999..499999", true},
		{"40..49", "399999..399999", false},
		{"40..49", "500000..500000", false},
		{"40..49", "399999..400000", true},
		{"40..49", "499999..500000", true},
		{"40..49", "399999..500000", true},
		{"12345..12345", "123450..123450", true},
		{"12345..12345", "123449..123449", false},
		{"12345..12345", "123459..123460", true},
		{"12345..12345", "123460..123469", false},
		{"123..456", "4569..4570", true},
		{"123..456", "4570..4571", false},
		{"123..456", "1229..1229", false},
		{"123..456", "1229..1230", true},
		{"99999..99999", "999999..999999", true},
		{"99999..99999", "000000..999989", false},
		{"99999..99999", "000000..999990", true},
	} {
		wantMeet(t, "bin "+c.one, "bin "+c.two, c.meet)
	}
}

func TestEveryTwoRangesThatEndInOneDigit(t *testing.T) {
	for code := range 10000 {
		a, b, c, d := code/1000, code/100%10, code/10%10, code%10
		if a <= b && c <= d {
			one := "bin " + strconv.Itoa(a) + ".." + strconv.Itoa(b)
			two := "bin 0" + strconv.Itoa(c) + "..0" + strconv.Itoa(d)
			wantMeet(t, one, two, a == 0)
			wantMeet(t, "bin 0"+one[4:7]+"0"+one[7:], two, a <= d && c <= b)
		}
	}
}

func TestAmountsThatMeet(t *testing.T) {
	for _, c := range []struct {
		one, two string
		meet     bool
	}{
		{"", " amount 0..0", true},
		{"", " amount 999999999..999999999", true},
		{" amount 0..5", " amount 5..6", true},
		{" amount 0..5", " amount 6..7", false},
		{" amount 0..0", " amount 0..0", true},
		{" amount 0..0", " amount 1..1", false},
		{" amount 3..9", " amount 5..5", true},
		{" amount 5..5", " amount 6..6", false},
		{" amount 0..999999998", " amount 999999999..999999999", false},
		{" amount 0..999999999", " amount 999999999..999999999", true},
	} {
		wantMeet(t, "bin 4..4"+c.one, "bin 4..4"+c.two, c.meet)
		wantMeet(t, "bin 4..4"+c.one, "bin 5..5"+c.two, false)
	}
}

func TestListsThatMeet(t *testing.T) {
	for _, c := range []struct {
		one, two string
		meet     bool
	}{
		{"0", "0", true},
		{"0", "1", false},
		{"1, 2", "2, 3", true},
		{"1, 2", "3, 4", false},
		{"4, 3, 2, 1", "9, 8, 7, 1", true},
		{"4, 3, 2, 1", "9, 8, 7, 6", false},
		{"1, 3", "2", false},
		{"7, 7", "7", true},
		{"999", "998", false},
		{"999", "0, 999", true},
	} {
		for _, guard := range []string{" mcc ", " cur "} {
			wantMeet(t, "bin 4..4"+guard+c.one, "bin 4..4"+guard+c.two, c.meet)
			wantMeet(t, "bin 4..4"+guard+c.one, "bin 4..4", true)
		}
		wantMeet(t, "bin 4..4 mcc "+c.one, "bin 4..4 cur "+c.two, true)
	}
	wantMeet(t, "bin 4..4 mcc 9999", "bin 4..4 mcc 9998", false)
	wantMeet(t, "bin 4..4 mcc 9999", "bin 4..4 mcc 9999", true)
}

// One side on which two rules have nothing in common is enough.
func TestAllSidesMustMeet(t *testing.T) {
	const one = "bin 40..41 mcc 1, 2 amount 3..4 cur 5, 6"
	for bin, inBin := range map[string]bool{"bin 410..419": true, "bin 420..429": false} {
		for mcc, inMcc := range map[string]bool{"": true, " mcc 2, 3": true, " mcc 3": false} {
			for amount, inAmount := range map[string]bool{"": true, " amount 4..5": true, " amount 5..6": false} {
				for cur, inCur := range map[string]bool{"": true, " cur 6": true, " cur 7, 4": false} {
					wantMeet(t, one, bin+mcc+amount+cur, inBin && inMcc && inAmount && inCur)
				}
			}
		}
	}
}

// Neither ranks nor names nor routes have a say in the order.
func TestOverlapsGoByTheText(t *testing.T) {
	wantOverlaps(t, "rule z 0: bin 4..4 -> decline; route q 1 1; rule m 9: bin 4..5 -> q; rule a 5: bin 5..6 -> cheapest q; rule b 9: bin 0..9 -> decline;", "z-m z-b m-a m-b a-b")
	wantOverlaps(t, rulesOf("bin 1..2", "bin 29..40", "bin 300..300"), "a-b b-c")
	all := rulesOf("bin 0..9", "bin 0..9", "bin 0..9", "bin 0..9", "bin 0..9", "bin 0..9", "bin 0..9", "bin 0..9")
	want := ""
	for _, first := range "abcdefgh" {
		for second := first + 1; second <= 'h'; second++ {
			want += string(first) + "-" + string(second) + " "
		}
	}
	wantOverlaps(t, all, strings.TrimSpace(want))
}

// A rule that decides nothing meets others all the same.
func TestDeadRulesMeetOthers(t *testing.T) {
	wantOverlaps(t, "rule a 2: bin 4..4 -> decline; rule b 1: bin 4..4 -> decline; rule c 1: bin 40..40 -> decline;", "a-b a-c b-c")
}

func TestOverlapsOfDrawnTexts(t *testing.T) {
	count := 0
	for seed := range int64(2000) {
		for _, text := range []string{writeText(seed), nested(rand.New(rand.NewSource(seed)))} {
			want := strings.Join(pairsByCounting(newAsker(text).rules), " ")
			wantOverlaps(t, text, want)
			count += strings.Count(want, "-")
		}
		if t.Failed() {
			t.FailNow()
		}
	}
	if count < 1000 {
		t.Errorf("only %d overlaps: the texts are badly drawn", count)
	}
}

// P1: who writes over an answer, or behind it, changes nothing else.
func TestOverlapsAreNewMemory(t *testing.T) {
	table := wantFine(t, example)
	want := append([]api.Overlap{}, wantFine(t, example).Overlaps()...)
	first := table.Overlaps()
	for _, o := range first {
		for _, text := range []string{o.First, o.Second, o.Witness.Pan} {
			if *unsafe.StringData(text) == 'Z' {
				t.Error("P1: two texts of one answer share memory")
			}
			*unsafe.StringData(text) = 'Z'
		}
	}
	clear(first[:cap(first)])
	for i, o := range table.Overlaps() {
		if o != want[i] {
			t.Errorf("P1: Overlaps() tells %+v, once an answer was written over", o)
		}
	}
	if got := table.Text(); got != plainByTokens(example) {
		t.Errorf("P1: Text() = %q, once an answer was written over", got)
	}
}
