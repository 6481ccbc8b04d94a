package junction_test

import (
	"strings"
	"testing"

	"junction/api"
	"junction/junction"
)

const example = `route a 10 2; route b 500 0; route c 0 9;
rule us 5: bin 40..49 cur 840 -> cheapest a, b;
rule big 7: bin 4..4 amount 1000..1000000 -> c, a; # above 'us'
rule no 1: bin 400000..499999 -> decline;
rule low 1: bin 4..4 mcc 5411, 5412 -> b;
`

func wantFine(t *testing.T, text string) *junction.Table {
	t.Helper()
	table, kind, line := junction.Compile(text)
	if table == nil || kind != api.Fine || line != 0 {
		t.Fatalf("P2: Compile(%.200q) = a table: %v, %d, %d; want a table, Fine, 0", text, table != nil, kind, line)
	}
	return table
}

func wantFault(t *testing.T, text string, wantKind api.Kind, wantLine int) {
	t.Helper()
	table, kind, line := junction.Compile(text)
	if table != nil || kind != wantKind || line != wantLine {
		t.Errorf("P2: Compile(%.200q) = a table: %v, %d, %d; want none, %d, %d", text, table != nil, kind, line, wantKind, wantLine)
	}
}

// spread puts each token on a line of its own. The line of the token that
// begins with '!' is told, without its '!'.
func spread(text string) (string, int) {
	tokens := strings.Fields(text)
	fault := 0
	for i, token := range tokens {
		if token[0] == '!' {
			fault = i + 1
			tokens[i] = token[1:]
		}
	}
	return strings.Join(tokens, "\n"), fault
}

func TestFineTexts(t *testing.T) {
	for _, text := range []string{
		"", " ", "\n", "\t", "#", "# ends without a line end", "#\n#\n",
		example,
		"route a 0 0;",
		"route a 0 0;#",
		"route a 0 0;\n\n",
		"route\ta\n0#x\n0 ; ",
		"route a 0 0;rule a 0:bin 0..0->a;",
		"route a 0 0;rule r 0:bin 4..5mcc 1amount 2..3cur 4->a;",
		"route a 0 0;rule r 0:bin 4..5mcc 1,2,3,4->cheapest a,a,a,a;",
		"rule r 0: bin 0..0 -> decline;",
		"route rules 0 0; route bin1 0 0; route cheapes 0 0; route declin 0 0;",
		"# \x00 \xff $ é .. -> ; \" route\nroute a 0 0;",
	} {
		wantFine(t, text)
	}
}

func TestLong(t *testing.T) {
	wantFine(t, strings.Repeat(" ", api.MaxText))
	wantFine(t, "#"+strings.Repeat("x", api.MaxText-1))
	wantFault(t, strings.Repeat(" ", api.MaxText+1), api.Long, 0)
	wantFault(t, strings.Repeat("\n", api.MaxText+1), api.Long, 0)
	wantFault(t, "$ a;"+strings.Repeat(" ", api.MaxText), api.Long, 0)
	wantFault(t, strings.Repeat(example, 1000), api.Long, 0)

	last := "route a 0 0;"
	room := api.MaxText - len(last)
	wantFine(t, strings.Repeat("\n", room)+last)
	wantFault(t, strings.Repeat("\n", room)+"route a 0 0$", api.Token, room+1)
	wantFault(t, strings.Repeat("\n", room+1)+"route a 0 0", api.Form, room+2)
	wantFault(t, strings.Repeat("\n", room+1)+last, api.Long, 0)
}

// wholeToken tells what a text of one byte c is: nothing, a token that cannot
// stand there, or no token.
func wholeToken(c byte) api.Kind {
	switch {
	case strings.IndexByte(" \t\n#", c) >= 0:
		return api.Fine
	case 'a' <= c && c <= 'z', '0' <= c && c <= '9', strings.IndexByte(";:,", c) >= 0:
		return api.Form
	}
	return api.Token
}

func TestEachByteAtTheEnd(t *testing.T) {
	for _, ahead := range []string{"", "\n", "route a 1 2;", "#\nroute a 1 2;\n"} {
		line := 1 + strings.Count(ahead, "\n")
		for c := range 256 {
			text := ahead + string([]byte{byte(c)})
			if kind := wholeToken(byte(c)); kind == api.Fine {
				wantFine(t, text)
			} else {
				wantFault(t, text, kind, line)
			}
		}
	}
}

func TestTokenFaults(t *testing.T) {
	for _, text := range []string{
		"route abcdefghi 1 1;",
		"route abcdefgh1 1 1;",
		"cheapesta",
		"route a 1234567890 1;",
		"route a 0000000000 1;",
		"route a 1 1234567890",
		"rule r 1: bin 1234567890",
		"rule r 1: bin 1..1 amount 1000000000..1000000000 -> decline;", // MaxAmount itself
		"rule r 1: bin 1.1 -> decline;",
		"rule r 1: bin 1. .1 -> decline;",
		"rule r 1: bin 1...1 -> decline;",
		"rule r 1: bin 1..1 - > decline;",
		"rule r 1: bin 1..1 > decline;",
		"rule r 1: bin 1..1 - decline;",
		"rule r 1: bin 1..1 --> decline;",
		"route A 1 1;",
		"route aB 1 1;",
		"route a_b 1 1;",
		"route a -1 1;",
		"route a +1 1;",
		"route a 1 1;\r\n",
		"route a 1 1;\v",
		"route a 1 1;\x00",
		"route a 1 1;\u00a0",
		"\ufeffroute a 1 1;",
		"route a 1 1.",
		"route a 1 1-",
	} {
		wantFault(t, text, api.Token, 1)
		wantFault(t, "# 1\n\t\n"+text, api.Token, 3)
		wantFault(t, "route ; ; ;\n"+text+"\n$", api.Token, 2)
	}
}

func TestLongestTokensAreFine(t *testing.T) {
	wantFine(t, "route abcdefgh 000000001 000000001; rule a2345678 000001000: bin 000000..999999 amount 0..999999999 -> abcdefgh;")
}

// An INT and a name behind it need no blank, a name and an INT do.
func TestTokensAreAsLongAsCanBe(t *testing.T) {
	wantFine(t, "route a1 2 3;rule b4 5:bin 6..7->a1;")
	wantFault(t, "route a1 2;", api.Form, 1)
	wantFault(t, "route\n1a 2 3;", api.Form, 2)
	wantFault(t, "route a 0 0;\nrule r 1: bin4..5 -> a;", api.Form, 2)
	wantFault(t, "routea 0 0;", api.Form, 1)
	wantFault(t, "route a 0 0; rule r 1: bin\n1....2 -> a;", api.Form, 2)
}

func TestSense(t *testing.T) {
	const routes = "route a 1 2 ; route b 3 4 ; "
	const rule = routes + "rule x 5 : bin 4 .. 5 "
	const full = routes + "route c 0 0 ; route d 0 0 ; route e 0 0 ; route f 0 0 ; "
	rules := routes
	for _, name := range strings.Split("abcdefgh", "") {
		rules += "rule " + name + " 1 : bin 1 .. 1 -> a ; "
	}
	for _, c := range []struct {
		kind api.Kind
		text string
	}{
		{api.Fine, full},
		{api.Many, full + "route !g 0 0 ;"},
		{api.Many, full + "route !a 1000001 0 ;"},
		{api.Fine, full + "rule g 0 : bin 1 .. 1 -> f ;"},
		{api.Fine, rules},
		{api.Many, rules + "rule !i 1 : bin 1 .. 1 -> a ;"},
		{api.Many, rules + "rule !a 1001 : bin 1 .. 0 -> z ;"},
		{api.Fine, rules + "route c 0 0 ;"},
		{api.Fine, rule + "mcc 1 , 2 , 3 , 4 -> a ;"},
		{api.Many, rule + "mcc 1 , 2 , 3 , 4 , !5 -> a ;"},
		{api.Many, rule + "mcc 1 , 1 , 1 , 1 , !10000 , 10000 -> z ;"},
		{api.Range, rule + "mcc 1 , 2 , 3 , !10000 , 5 -> a ;"},
		{api.Fine, rule + "cur 1 , 2 , 3 , 4 -> a ;"},
		{api.Many, rule + "cur 1 , 2 , 3 , 4 , !5 -> a ;"},
		{api.Many, rule + "cur 1 , 2 , 3 , 4 , !1000 -> z ;"},
		{api.Fine, rule + "-> a , b , a , b ;"},
		{api.Many, rule + "-> a , b , a , b , !a ;"},
		{api.Many, rule + "-> cheapest a , a , a , a , !z ;"},
		{api.Name, rule + "-> a , a , a , !z , a ;"},

		{api.Name, routes + "route !a 5 5 ;"},
		{api.Name, routes + "route !b 1000001 5 ;"},
		{api.Fine, routes + "rule a 1 : bin 1 .. 1 -> b ; rule b 1 : bin 1 .. 1 -> a ;"},
		{api.Name, rule + "-> a ; rule !x 1001 : bin 1 .. 1 -> a ;"},
		{api.Fine, rule + "-> a ; route x 1 1 ;"},
		{api.Name, rule + "-> !x ;"},
		{api.Name, rule + "-> a ; rule y 1 : bin 1 .. 1 -> !x ;"},
		{api.Name, rule + "-> cheapest a , !c ; route c 0 0 ;"},
		{api.Fine, rule + "-> a ; route c 0 0 ; rule y 1 : bin 1 .. 1 -> c ;"},

		{api.Fine, "route a 1000000 1000 ;"},
		{api.Range, "route a !1000001 1001 ;"},
		{api.Range, "route a 1000000 !1001 ;"},
		{api.Fine, "route a 000000000 000001000 ;"},
		{api.Fine, routes + "rule x 1000 : bin 1 .. 1 -> a ;"},
		{api.Range, routes + "rule x !1001 : bin 2 .. 1 -> z ;"},
		{api.Fine, routes + "rule x 1 : bin 000000 .. 999999 -> a ;"},
		{api.Range, routes + "rule x 1 : bin !0000001 .. 0000001 -> a ;"},
		{api.Range, routes + "rule x 1 : bin !1234567 .. 1 -> a ;"},
		{api.Range, routes + "rule x 1 : bin 123456 .. !1234567 -> a ;"},
		{api.Range, routes + "rule x 1 : bin 4 .. !05 -> a ;"},
		{api.Range, routes + "rule x 1 : bin 04 .. !5 -> a ;"},
		{api.Range, routes + "rule x 1 : bin 99 .. !100 -> a ;"},
		{api.Fine, routes + "rule x 1 : bin 10 .. 10 -> a ;"},
		{api.Range, routes + "rule x 1 : bin 10 .. !09 mcc 10000 -> a ;"},
		{api.Fine, rule + "mcc 0 , 9999 , 000009999 -> a ;"},
		{api.Range, rule + "mcc !10000 -> a ;"},
		{api.Range, rule + "mcc 9999 , !999999999 amount 2 .. 1 -> a ;"},
		{api.Fine, rule + "amount 0 .. 999999999 -> a ;"},
		{api.Fine, rule + "amount 999999999 .. 999999999 -> a ;"},
		{api.Fine, rule + "amount 010 .. 10 -> a ;"},
		{api.Fine, rule + "amount 9 .. 10 -> a ;"},
		{api.Range, rule + "amount 10 .. !9 cur 1000 -> a ;"},
		{api.Range, rule + "amount 10 .. !009 -> a ;"},
		{api.Fine, rule + "cur 0 , 999 , 000000999 -> a ;"},
		{api.Range, rule + "cur !1000 -> z ;"},
		{api.Range, rule + "cur 1 , 2 , 3 , !1000 , 4 -> decline ;"},
	} {
		text, line := spread(c.text)
		if c.kind == api.Fine {
			wantFine(t, text)
			continue
		}
		wantFault(t, text, c.kind, line)
		wantFault(t, "\n# above\n"+text+"\n# below\n", c.kind, line+2)
	}
}

// A fault of an earlier kind is told, though it stands behind one of a later.
func TestOrderOfFaults(t *testing.T) {
	const sense = "route a 1000001 1;\nroute a 1 1;\n"
	wantFault(t, sense, api.Range, 1)
	wantFault(t, sense+";", api.Form, 3)
	wantFault(t, sense+";\n$", api.Token, 4)
	wantFault(t, sense+";\n$"+strings.Repeat(" ", api.MaxText), api.Long, 0)
	wantFault(t, "route a 1 1;\nroute a 1000001 1;", api.Name, 2)
	wantFault(t, "rule x 1: bin 1..1 -> z;\nroute a 1 1001;", api.Name, 1)
}

func TestTextEndsTooEarly(t *testing.T) {
	tokens := strings.Fields("route a 1 2 ; rule x 3 : bin 4 .. 5 mcc 6 , 7 amount 8 .. 9 cur 1 , 2 -> cheapest a , a ;")
	for n := 1; n < len(tokens); n++ {
		if tokens[n-1] == ";" {
			continue
		}
		text := strings.Join(tokens[:n], " ")
		wantFault(t, text, api.Form, 1)
		wantFault(t, text+" # no line end", api.Form, 1)
		wantFault(t, text+"\n", api.Form, 2)
		wantFault(t, text+"\n#\n\t ", api.Form, 3)
		wantFault(t, "\n\n"+strings.Join(tokens[:n], "\n"), api.Form, n+2)
	}
}
