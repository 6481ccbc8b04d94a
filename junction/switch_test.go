package junction_test

import (
	"fmt"
	"math/rand"
	"regexp"
	"slices"
	"strconv"
	"strings"
	"testing"
	"unsafe"

	"junction/api"
	"junction/junction"
	"junction/seal"
)

func wantHandled(t *testing.T, s *junction.Switch, message string, want api.Outcome) {
	t.Helper()
	if got := s.Handle(message); got != want {
		t.Errorf("P8: Handle(%.100q) = %+v, want %+v", message, got, want)
	}
}

func wantInstalled(t *testing.T, s *junction.Switch, text string) {
	t.Helper()
	if kind, line := s.Install(text); kind != api.Fine || line != 0 {
		t.Fatalf("P8: Install(%.200q) = %d, %d", text, kind, line)
	}
}

func wantPut(t *testing.T, s *junction.Switch, image string, want bool) {
	t.Helper()
	if got := s.Put(image); got != want {
		t.Fatalf("P8: Put of %d bytes = %v", len(image), got)
	}
}

func switchOf(t *testing.T, text string) *junction.Switch {
	t.Helper()
	s := junction.NewSwitch()
	wantInstalled(t, s, text)
	return s
}

// message writes a payment down.
func message(p api.Payment) string {
	return fmt.Sprintf("%s %d %d %d", p.Pan, p.Mcc, p.Amount, p.Cur)
}

func TestSwitchWithoutRules(t *testing.T) {
	s := junction.NewSwitch()
	for range 2 {
		for _, m := range []string{"411111 1 300 840", "000000 0 0 0", "9999999999999999999 9999 1000000000 999"} {
			wantHandled(t, s, m, noRule)
		}
		for _, m := range []string{"", "411111 1 300", "41111 1 300 840", "411111 1 1000000001 840"} {
			wantHandled(t, s, m, noPayment)
		}
		s.Set("a", false)
		wantPut(t, s, "", false)
		if kind, line := s.Install("\n$"); kind != api.Token || line != 2 {
			t.Errorf("P8: Install = %d, %d", kind, line)
		}
	}
}

func TestSwitchOfTheExample(t *testing.T) {
	s := switchOf(t, example)
	wantHandled(t, s, "411111 1 100 840", forward("us", "a"))
	wantHandled(t, s, "411111 1 300 840", forward("us", "b"))
	wantHandled(t, s, "411111 1 2000 840", forward("big", "c"))
	s.Set("c", false)
	wantHandled(t, s, "411111 1 2000 840", forward("big", "a"))
	s.Set("a", false)
	wantHandled(t, s, "411111 1 2000 840", isDown("big"))
	wantHandled(t, s, "411111 1 100 840", forward("us", "b"))
	wantHandled(t, s, "411111 1 1 978", refused("no"))
	wantHandled(t, s, "510000 1 1 978", noRule)
	s.Set("c", true)
	wantHandled(t, s, "411111 1 2000 840", forward("big", "c"))
}

const (
	oneText = "route a 1 1; route b 2 2; rule one 1: bin 4..4 -> a, b;"
	twoText = "route b 1 1; route c 2 2; rule two 1: bin 4..4 -> b, c;"
	payment = "400000 1 1 1"
)

func TestInstallTakesTheNewRules(t *testing.T) {
	s := switchOf(t, oneText)
	wantHandled(t, s, payment, forward("one", "a"))
	wantInstalled(t, s, twoText)
	wantHandled(t, s, payment, forward("two", "b"))
	wantInstalled(t, s, "")
	wantHandled(t, s, payment, noRule)
	wantInstalled(t, s, oneText)
	wantHandled(t, s, payment, forward("one", "a"))
}

// What Install answers is what Compile answers, and a fault changes nothing.
func TestInstallOfRulesWithAFault(t *testing.T) {
	s := switchOf(t, oneText)
	s.Set("a", false)
	for _, text := range []string{
		strings.Repeat(" ", api.MaxText+1), "$", "\n\nroute", "route a 1 1;\nroute a 1 1;", "route a 1\n1001;",
		twoText + "\nrule three 1: bin 4..4 -> q;", "route a 0 0;route b 0 0;route c 0 0;route d 0 0;route e 0 0;route f 0 0;\nroute g 0 0;",
	} {
		_, wantKind, wantLine := junction.Compile(text)
		if kind, line := s.Install(text); kind != wantKind || line != wantLine || kind == api.Fine {
			t.Errorf("P8: Install(%.100q) = %d, %d, want %d, %d", text, kind, line, wantKind, wantLine)
		}
		wantHandled(t, s, payment, forward("one", "b"))
	}
}

func TestPut(t *testing.T) {
	s := junction.NewSwitch()
	one, two := wantFine(t, oneText).Image(), wantFine(t, twoText).Image()
	wantPut(t, s, one, true)
	wantHandled(t, s, payment, forward("one", "a"))
	wantPut(t, s, two, true)
	wantHandled(t, s, payment, forward("two", "b"))
	wantPut(t, s, wantLoaded(t, one).Image(), true)
	wantHandled(t, s, payment, forward("one", "a"))
	wantInstalled(t, s, twoText)
	wantHandled(t, s, payment, forward("two", "b"))
	wantPut(t, s, wantFine(t, "").Image(), true)
	wantHandled(t, s, payment, noRule)
}

func TestPutOfNoImageChangesNothing(t *testing.T) {
	s := switchOf(t, oneText)
	s.Set("a", false)
	image := wantFine(t, twoText).Image()
	body, _ := seal.Open(image)
	for _, other := range []string{
		"", "x", image[:len(image)-1], image[1:], image + "\x00", image + image, turned(image, 0, 1), turned(image, 100, 0xffffffff), turned(image, 8*len(image)-1, 1),
		body, seal.Close(body[:len(body)-1]), seal.Close(body + "\x01"), twoText, strings.Repeat("\x00", api.MaxImage+1),
	} {
		wantPut(t, s, other, false)
		wantHandled(t, s, payment, forward("one", "b"))
	}
}

// A route is down, or up, whatever table there is: ahead of it and behind it.
func TestSetHoldsForAllTables(t *testing.T) {
	for name, take := range map[string]func(s *junction.Switch, text string){
		"Install": func(s *junction.Switch, text string) { wantInstalled(t, s, text) },
		"Put":     func(s *junction.Switch, text string) { wantPut(t, s, wantFine(t, text).Image(), true) },
	} {
		t.Run(name, func(t *testing.T) {
			s := junction.NewSwitch()
			s.Set("b", false)
			take(s, oneText)
			wantHandled(t, s, payment, forward("one", "a"))
			s.Set("a", false)
			wantHandled(t, s, payment, isDown("one"))
			take(s, twoText)
			wantHandled(t, s, payment, forward("two", "c"))
			s.Set("b", true)
			wantHandled(t, s, payment, forward("two", "b"))
			take(s, oneText)
			wantHandled(t, s, payment, forward("one", "b"))
			take(s, "")
			s.Set("a", true)
			s.Set("b", false)
			take(s, oneText)
			wantHandled(t, s, payment, forward("one", "a"))
		})
	}
}

func TestSetTwice(t *testing.T) {
	s := switchOf(t, oneText)
	s.Set("a", false)
	s.Set("a", false)
	wantHandled(t, s, payment, forward("one", "b"))
	s.Set("a", true)
	wantHandled(t, s, payment, forward("one", "a"))
	s.Set("a", true)
	s.Set("a", false)
	wantHandled(t, s, payment, forward("one", "b"))
	s.Set("a", true)
	wantHandled(t, s, payment, forward("one", "a"))
}

func TestSetOfOtherNames(t *testing.T) {
	s := switchOf(t, oneText)
	for _, name := range []string{"", "q", "one", "A", "a ", " a", "aa", "a,b", "a b", "a\x00", "route", "decline", "\xff", "1", strings.Repeat("a", 1<<20)} {
		s.Set(name, false)
		wantHandled(t, s, payment, forward("one", "a"))
	}
	s.Set("a", false)
	for _, name := range []string{"", "q", "one", "A", "a ", "aa", strings.Repeat("a", 1<<20)} {
		s.Set(name, true)
		wantHandled(t, s, payment, forward("one", "b"))
	}
}

// Each name that a route may have can be set down.
func TestSetOfLongNames(t *testing.T) {
	for _, name := range []string{"a", "z", "a2345678", "zzzzzzzz", "routes", "cheapes", "bin1"} {
		s := junction.NewSwitch()
		s.Set(name, false)
		wantInstalled(t, s, "route "+name+" 0 0; rule r 1: bin 4..4 -> "+name+";")
		wantHandled(t, s, payment, isDown("r"))
		s.Set(name, true)
		wantHandled(t, s, payment, forward("r", name))
	}
}

func TestManyRoutesSet(t *testing.T) {
	s := switchOf(t, oneText)
	for i := range 100000 {
		s.Set("a"+strconv.Itoa(i), false)
	}
	for range 10000 {
		wantHandled(t, s, payment, forward("one", "a"))
	}
	for i := range 100000 {
		s.Set("a"+strconv.Itoa(i), true)
	}
	s.Set("a", false)
	wantHandled(t, s, payment, forward("one", "b"))
}

func TestNoughtsAhead(t *testing.T) {
	s := switchOf(t, "route a 0 0; rule r 1: bin 04..04 mcc 7 amount 3..3 cur 8 -> a;")
	for _, m := range []string{"040000 7 3 8", "040000 0007 3 8", "040000 7 0000000003 8", "040000 7 3 008", "040000 07 03 08", "040000 0007 0000000003 008"} {
		wantHandled(t, s, m, forward("r", "a"))
	}
	wantHandled(t, s, "0040000 7 3 8", noRule) // of a card's number every digit counts
	wantHandled(t, s, "40000 7 3 8", noPayment)
	s = switchOf(t, "route a 0 0; rule r 1: bin 0..9 mcc 0 amount 0..0 cur 0 -> a;")
	for _, m := range []string{"000000 0 0 0", "000000 0000 0000000000 000"} {
		wantHandled(t, s, m, forward("r", "a"))
	}
}

func TestLimitsOfMessages(t *testing.T) {
	s := switchOf(t, "rule r 1: bin 0..9 -> decline;")
	for m, want := range map[string]api.Outcome{
		"411111 9999 1 1":                 refused("r"),
		"411111 10000 1 1":                noPayment,
		"411111 09999 1 1":                noPayment,
		"411111 00001 1 1":                noPayment,
		"411111 1 1000000000 1":           refused("r"),
		"411111 1 0999999999 1":           refused("r"),
		"411111 1 1000000001 1":           noPayment,
		"411111 1 9999999999 1":           noPayment,
		"411111 1 00000000001 1":          noPayment,
		"411111 1 01000000000 1":          noPayment,
		"411111 1 4294967297 1":           noPayment, // 1 by 32 bits
		"411111 1 18446744073709551617 1": noPayment, // 1 by 64 bits
		"411111 1 1 999":                  refused("r"),
		"411111 1 1 1000":                 noPayment,
		"411111 1 1 0999":                 noPayment,
		"411111 1 1 0001":                 noPayment,
		"41111 1 1 1":                     noPayment,
		"1234567890123456789 1 1 1":       refused("r"),
		"12345678901234567890 1 1 1":      noPayment,
		"00000000000000411111 1 1 1":      noPayment,
	} {
		wantHandled(t, s, m, want)
	}
}

func TestMessagesThatAreNone(t *testing.T) {
	s := switchOf(t, "rule r 1: bin 0..9 -> decline;")
	for _, m := range []string{
		"", " ", "   ", "411111", "411111 1", "411111 1 1", "411111 1 1 ", "411111 1 1 1 ", "411111 1 1 1 1", " 411111 1 1 1",
		"411111  1 1 1", "411111 1  1 1", "411111 1 1  1", "411111  1 1", "411111 1  1", " 1 1 1", "411111   ", "41111 1 1 1 1",
		"4111111 11", "411111,1,1,1", "411111\t1 1 1", "411111 1\n1 1", "411111 1 1 1\n", "\n411111 1 1 1", "411111 1 1 1\x00", "411111 1 1 1#",
		"411111 +1 1 1", "411111 -1 1 1", "411111 1 +1 1", "411111 1 -1 1", "411111 1 -0 1", "411111 1 1 +1", "411111 1 1 -1", "+411111 1 1 1", "-411111 1 1 1",
		"411111 0x1 1 1", "411111 1_0 1 1", "411111 1 1e1 1", "411111 1 1.0 1", "411111 a 1 1", "411111 1 a 1", "411111 1 1 a", "41111a 1 1 1",
		"411111 １ 1 1", "411111 1 १ 1", "411111 1 1 \xb1", "411111\u00a01 1 1", "\xff", "\x00",
		strings.Repeat(" ", 1<<20), strings.Repeat("1 ", 1<<20), strings.Repeat("1", 1<<20), "411111 1 1 " + strings.Repeat("0", 1<<20) + "1",
	} {
		wantHandled(t, s, m, noPayment)
		wantHandled(t, junction.NewSwitch(), m, noPayment)
	}
}

// At each place of a message each byte is tried.
func TestBytesOfMessages(t *testing.T) {
	s := switchOf(t, "rule r 1: bin 0..9 -> decline;")
	const whole = "4111111 12 123 12"
	for i := range whole {
		for c := range 256 {
			want := noPayment
			if digit := c >= '0' && c <= '9'; digit && whole[i] != ' ' || c == ' ' && whole[i] == ' ' {
				want = refused("r")
			}
			wantHandled(t, s, whole[:i]+string([]byte{byte(c)})+whole[i+1:], want)
		}
	}
}

var messageForm = regexp.MustCompile(`\A([0-9]{6,19}) ([0-9]{1,4}) ([0-9]{1,10}) ([0-9]{1,3})\z`)

// handledBy tells what a message comes to, by its form and a text.
func handledBy(a *asker, message string, down []string) api.Outcome {
	m := messageForm.FindStringSubmatch(message)
	if m == nil || number(m[3]) > api.MaxAmount {
		return noPayment
	}
	return a.decide(api.Payment{Pan: m[1], Mcc: number(m[2]), Amount: number(m[3]), Cur: number(m[4])}, down)
}

func FuzzHandle(f *testing.F) {
	f.Add("411111 1 300 840", "b")
	f.Add("4111111111111111111 0001 0000000300 840", "a c")
	f.Add("411111 1 1000000001 840", "")
	f.Fuzz(func(t *testing.T, message, list string) {
		s := switchOf(t, example)
		down := strings.Fields(list)
		for _, name := range down {
			s.Set(name, false)
		}
		wantHandled(t, s, message, handledBy(newAsker(example), message, down))
	})
}

// drawMessage writes a payment down; now and then it is none any more.
func drawMessage(a *asker, r *rand.Rand) string {
	p := a.payment(r)
	m := fmt.Sprintf("%s %0*d %0*d %0*d", p.Pan, r.Intn(6), p.Mcc, r.Intn(13), p.Amount, r.Intn(5), p.Cur)
	if r.Intn(4) == 0 {
		at := r.Intn(len(m))
		m = m[:at] + []string{"", " ", "0", "9", "-", "\n"}[r.Intn(6)] + m[at+r.Intn(2):]
	}
	return m
}

// A long life of several switches, each held against the text it has by then.
func TestSwitchesOverTime(t *testing.T) {
	type life struct {
		s     *junction.Switch
		asker *asker
		down  []string
	}
	r := rand.New(rand.NewSource(1))
	var lives []*life
	for range 3 {
		lives = append(lives, &life{s: junction.NewSwitch(), asker: newAsker("")})
	}
	kinds := [5]int{}
	for step := range int64(30000) {
		l := lives[r.Intn(len(lives))]
		text := writeText(step % 100)
		switch r.Intn(24) {
		case 0:
			wantInstalled(t, l.s, text)
			l.asker = newAsker(text)
		case 1:
			wantPut(t, l.s, wantFine(t, text).Image(), true)
			l.asker = newAsker(text)
		case 2:
			if kind, _ := l.s.Install(text + "?"); kind == api.Fine {
				t.Fatal("P8: a fault is not told")
			}
			wantPut(t, l.s, turned(wantFine(t, text).Image(), r.Intn(64), 1), false)
		case 3, 4, 5:
			name := "n" + strconv.Itoa(r.Intn(api.MaxRoutes))
			l.s.Set(name, false)
			l.down = append(l.down, name)
		case 6, 7:
			name := "n" + strconv.Itoa(r.Intn(api.MaxRoutes))
			l.s.Set(name, true)
			l.down = slices.DeleteFunc(l.down, func(other string) bool { return other == name })
		default:
			m := drawMessage(l.asker, r)
			want := handledBy(l.asker, m, l.down)
			wantHandled(t, l.s, m, want)
			kinds[want.Kind]++
		}
		if t.Failed() {
			t.FailNow()
		}
	}
	for kind, count := range kinds {
		if count < 300 {
			t.Errorf("only %d outcomes of the kind %d: the messages are badly drawn", count, kind)
		}
	}
}

// P1: switches and tables know nothing of one another.
func TestSwitchesAndTablesBesideOneAnother(t *testing.T) {
	table := wantFine(t, oneText)
	image := table.Image()
	loaded := wantLoaded(t, image)
	one, two := switchOf(t, oneText), junction.NewSwitch()
	wantPut(t, two, image, true)
	for range 3 {
		one.Set("a", false)
		wantHandled(t, one, payment, forward("one", "b"))
		wantHandled(t, two, payment, forward("one", "a"))
		two.Set("b", false)
		wantHandled(t, one, payment, forward("one", "b"))
		wantHandled(t, two, payment, forward("one", "a"))
		wantOutcome(t, table, card("400000"), nil, forward("one", "a"))
		wantOutcome(t, loaded, card("400000"), nil, forward("one", "a"))
		wantOutcome(t, table, card("400000"), []string{"a", "b"}, isDown("one"))
		wantOutcome(t, loaded, card("400000"), []string{"a", "b"}, isDown("one"))
		wantHandled(t, one, payment, forward("one", "b"))
		wantHandled(t, junction.NewSwitch(), payment, noRule)
		if table.Image() != image || loaded.Image() != image {
			t.Error("P1: a table has another image than it had")
		}
	}
	wantInstalled(t, one, twoText)
	wantHandled(t, two, payment, forward("one", "a"))
	wantOutcome(t, table, card("400000"), nil, forward("one", "a"))
}

// P1: the memory of all that was handed in may be used anew.
func TestSwitchKeepsNothing(t *testing.T) {
	s := junction.NewSwitch()
	use := func(text string, call func(string)) {
		memory := []byte(text)
		call(unsafe.String(&memory[0], len(memory)))
		if string(memory) != text {
			t.Errorf("P1: what was handed in is %q, it was %q", memory, text)
		}
		for i := range memory {
			memory[i] = 'z'
		}
	}
	use("a", func(name string) { s.Set(name, false) })
	use(oneText, func(text string) { wantInstalled(t, s, text) })
	use(payment, func(m string) { wantHandled(t, s, m, forward("one", "b")) })
	use("a", func(name string) { s.Set(name, true) })
	wantHandled(t, s, payment, forward("one", "a"))
	use("b", func(name string) { s.Set(name, false) })
	use(wantFine(t, twoText).Image(), func(image string) { wantPut(t, s, image, true) })
	wantHandled(t, s, payment, forward("two", "c"))
}

// P1: who writes over an outcome changes nothing else.
func TestHandledIsNewMemory(t *testing.T) {
	s := switchOf(t, oneText)
	first := s.Handle(payment)
	*unsafe.StringData(first.Rule), *unsafe.StringData(first.Route) = 'Z', 'Z'
	wantHandled(t, s, payment, forward("one", "a"))
	s.Set("a", false)
	wantHandled(t, s, payment, forward("one", "b"))
}

// A message and the payment that it is have one outcome.
func TestHandleIsDecide(t *testing.T) {
	for seed := range int64(300) {
		text := writeText(seed)
		table, s, asker := wantFine(t, text), switchOf(t, text), newAsker(text)
		r := rand.New(rand.NewSource(seed))
		down := drawDown(r)
		for _, name := range down {
			s.Set(name, false)
		}
		for range 20 {
			p := asker.payment(r)
			wantHandled(t, s, message(p), table.Decide(p, down))
		}
	}
}
