package tree

import (
	"math/rand"
	"testing"

	"junction/api"
	"junction/rules"
)

func drawBook(r *rand.Rand) *rules.Book {
	b := &rules.Book{Routes: []rules.Route{{Name: "a", Base: 1, Rate: 1}}}
	for i := range r.Intn(api.MaxRules + 1) {
		rule := rules.Rule{Name: string(rune('a' + i)), Rank: r.Intn(3), Digits: 1 + r.Intn(api.MaxBin), Routes: []int{0}}
		size := powers[rule.Digits]
		rule.Bin.Low = r.Intn(size)
		rule.Bin.High = rule.Bin.Low + r.Intn(size-rule.Bin.Low)
		if r.Intn(2) == 0 {
			rule.Mcc = []int{1}
		}
		if r.Intn(2) == 0 {
			rule.HasAmount, rule.Amount = true, rules.Span{Low: 1, High: 2}
		}
		if r.Intn(2) == 0 {
			rule.Cur = []int{1}
		}
		b.Rules = append(b.Rules, rule)
	}
	return b
}

// wantShape asks that a node has kids only where they differ, and is nowhere
// deeper than the rules have digits. It tells how many nodes there are.
func wantShape(t *testing.T, n node, depth int) int {
	t.Helper()
	if n.kids == nil {
		return 1
	}
	if depth == api.MaxBin {
		t.Fatal("the tree is too deep")
	}
	count, same := 1, true
	for _, kid := range n.kids {
		count += wantShape(t, kid, depth+1)
		same = same && kid == n.kids[0]
	}
	if same {
		t.Error("a node has ten equal leaves")
	}
	return count
}

// wantEnd asks that each step goes on, and the last one does not.
func wantEnd(t *testing.T, program []step) {
	t.Helper()
	for at, s := range program {
		guard := s.sort < decline
		if guard != (at+s.skip > at) || at+s.skip >= len(program) {
			t.Errorf("step %d of %+v goes nowhere", at, program)
		}
	}
	if last := program[len(program)-1]; last.sort < decline {
		t.Errorf("the last step of %+v asks", program)
	}
}

func TestShape(t *testing.T) {
	r := rand.New(rand.NewSource(1))
	for range 2000 {
		tree := Grow(drawBook(r))
		// Each end of a range parts at most one node of each depth.
		if n := wantShape(t, tree.root, 0); n > 1+10*(1+2*api.MaxRules*(api.MaxBin-1)) {
			t.Errorf("%d nodes", n)
		}
		// Between two ends all cards meet the same rules.
		if n := len(tree.programs); n > 1+2*api.MaxRules {
			t.Errorf("%d programs", n)
		}
		for _, program := range tree.programs {
			wantEnd(t, program)
		}
	}
}

func TestRangesOfAllCardsNeedNoKids(t *testing.T) {
	b := &rules.Book{Rules: []rules.Rule{{Name: "r", Digits: 6, Bin: rules.Span{Low: 0, High: 999999}, Decline: true}}}
	if tree := Grow(b); tree.root.kids != nil || len(tree.programs) != 1 || len(tree.programs[0]) != 1 {
		t.Errorf("the tree of one rule for all cards is %+v", tree)
	}
}

// A rule without guards is the last one that is asked.
func TestNothingStandsBehindARuleWithoutGuards(t *testing.T) {
	all := rules.Span{Low: 0, High: 9}
	b := &rules.Book{Rules: []rules.Rule{
		{Name: "last", Rank: 1, Digits: 1, Bin: all, Decline: true},
		{Name: "sure", Rank: 2, Digits: 1, Bin: all, Decline: true},
		{Name: "first", Rank: 3, Digits: 1, Bin: all, Mcc: []int{7}, Decline: true},
	}}
	program := Grow(b).programs[0]
	if len(program) != 3 || program[0].sort != askMcc || program[1].rule != 2 || program[2].rule != 1 {
		t.Errorf("the program is %+v", program)
	}
}

func TestEachSortOfStepDoesSomething(t *testing.T) {
	for sort, do := range doings() {
		if do == nil {
			t.Errorf("no method stands for the sort %d", sort)
		}
	}
}
