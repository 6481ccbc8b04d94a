package tree

import (
	"math/rand"
	"reflect"
	"strings"
	"testing"

	"junction/api"
	"junction/rules"
	"junction/seal"
)

// read tells nothing if the reader gave up; any other panic goes on.
func read(image string) (t *Tree, ok bool) {
	defer func() {
		if fault := recover(); fault != nil {
			_ = fault.(NoImage)
			t, ok = nil, false
		}
	}()
	return Read(image), true
}

func wantSame(t *testing.T, tree *Tree) {
	t.Helper()
	image := tree.Image()
	got, ok := read(image)
	if !ok {
		t.Fatalf("P7: the image of %+v is not read", tree)
	}
	if got.Image() != image {
		t.Fatalf("P7: the image of %+v, read, has another image", tree)
	}
	if !reflect.DeepEqual(got, tree) {
		t.Fatalf("P7: of %+v comes %+v", tree, got)
	}
}

func wantNone(t *testing.T, tree *Tree, why string) {
	t.Helper()
	if got, ok := read(tree.Image()); got != nil || ok {
		t.Errorf("P7: a tree is read, though %s", why)
	}
}

func TestImageOfDrawnTrees(t *testing.T) {
	r := rand.New(rand.NewSource(1))
	for range 2000 {
		wantSame(t, Grow(drawBook(r)))
	}
	wantSame(t, Grow(&rules.Book{}))
}

func manyRoutes(count int) []rules.Route {
	var list []rules.Route
	for i := range count {
		list = append(list, rules.Route{Name: "route" + string(rune('a'+i)), Base: i, Rate: i})
	}
	return list
}

func manyNames(count int) []string {
	var list []string
	for i := range count {
		list = append(list, string(rune('a'+i)))
	}
	return list
}

// chain is nodes, each with a kid that has kids, so many deep.
func chain(depth int) node {
	if depth == 0 {
		return node{program: 1}
	}
	n := node{kids: new([10]node)}
	n.kids[9] = chain(depth - 1)
	return n
}

// plainTree is one that is read; the tests spoil it at one place each.
func plainTree() *Tree {
	return &Tree{
		routes: []rules.Route{{Name: "a", Base: 1, Rate: 2}, {Name: "b", Base: 3, Rate: 4}},
		names:  []string{"r", "s"},
		programs: [][]step{
			{{sort: endWithoutRule}},
			{
				{sort: askMcc, skip: 4, numbers: []int{1, 2}},
				{sort: askAmount, skip: 3, numbers: []int{5, 6}},
				{sort: askCur, skip: 2, numbers: []int{7}},
				{sort: takeFirst, rule: 1, numbers: []int{1, 0}},
				{sort: askMcc, skip: 2, numbers: []int{9}},
				{sort: takeCheapest, rule: 0, numbers: []int{0, 1}},
				{sort: decline, rule: 1},
			},
		},
		root: chain(2),
	}
}

const (
	mccStep = iota
	amountStep
	curStep
	firstStep
	_
	cheapestStep
	declineStep
)

func TestWhatIsAtTheEdgeIsRead(t *testing.T) {
	for _, change := range []func(t *Tree){
		func(t *Tree) {},
		func(t *Tree) { t.routes = manyRoutes(api.MaxRoutes) },
		func(t *Tree) { t.names = manyNames(api.MaxRules) },
		func(t *Tree) { t.routes[0].Name = "abcdefg8" },
		func(t *Tree) { t.names[0] = "b" },
		func(t *Tree) { t.routes[0].Base, t.routes[0].Rate = api.MaxBase, api.MaxRate },
		func(t *Tree) { t.root = chain(0) },
		func(t *Tree) { t.root = chain(api.MaxBin) },
		func(t *Tree) { t.programs[1][mccStep].numbers = []int{0, api.MaxMcc, 1, 1} },
		func(t *Tree) { t.programs[1][curStep].numbers = []int{0, api.MaxCur, 1, 1} },
		func(t *Tree) { t.programs[1][amountStep].numbers = []int{0, api.MaxAmount} },
		func(t *Tree) { t.programs[1][amountStep].numbers = []int{api.MaxAmount, api.MaxAmount} },
		func(t *Tree) { t.programs[1][firstStep].numbers = []int{1, 1, 1, 1} },
		func(t *Tree) { t.programs[1][mccStep].skip = 1 },
		func(t *Tree) { t.programs[1][mccStep].skip = declineStep },
		func(t *Tree) { t.programs[1][amountStep].skip = declineStep - amountStep },
		func(t *Tree) {
			for len(t.programs) < maxCount {
				t.programs = append(t.programs, t.programs[1])
			}
			t.root.program = 0
			t.root.kids[0].program = maxCount - 1
		},
	} {
		tree := plainTree()
		change(tree)
		wantSame(t, tree)
	}
}

func TestNamesThatAreNone(t *testing.T) {
	for _, name := range []string{"", "abcdefghi", "1", "1a", "A", "aB", "a ", " a", "a\x00", "é", "a_b", "route", "rule", "bin", "mcc", "amount", "cur", "decline", "cheapest", "\xff"} {
		tree := plainTree()
		tree.routes[1].Name = name
		wantNone(t, tree, "a route has the name "+name)
		tree = plainTree()
		tree.names[1] = name
		wantNone(t, tree, "a rule has the name "+name)
	}
	for _, name := range []string{"routes", "a1", "z9", "rul", "bins"} {
		tree := plainTree()
		tree.routes[1].Name, tree.names[0] = name, name
		wantSame(t, tree)
	}
}

func TestWhatIsBehindTheEdgeIsNotRead(t *testing.T) {
	for why, change := range map[string]func(t *Tree){
		"it has too many routes":              func(t *Tree) { t.routes = manyRoutes(api.MaxRoutes + 1) },
		"it has too many rules":               func(t *Tree) { t.names = manyNames(api.MaxRules + 1) },
		"two routes have one name":            func(t *Tree) { t.routes[1].Name = t.routes[0].Name },
		"two rules have one name":             func(t *Tree) { t.names[1] = t.names[0] },
		"a base is too great":                 func(t *Tree) { t.routes[1].Base = api.MaxBase + 1 },
		"a base is far too great":             func(t *Tree) { t.routes[1].Base = 1<<32 - 1 },
		"a rate is too great":                 func(t *Tree) { t.routes[1].Rate = api.MaxRate + 1 },
		"it has no programs":                  func(t *Tree) { t.programs, t.root = nil, node{} },
		"it has no programs, and no leaf":     func(t *Tree) { t.programs, t.root = nil, node{program: -1} },
		"a program is empty":                  func(t *Tree) { t.programs[0] = nil },
		"a leaf has no program":               func(t *Tree) { t.root.kids[3].program = 2 },
		"the first leaf has no program":       func(t *Tree) { t.root = node{program: 2} },
		"it is too deep":                      func(t *Tree) { t.root = chain(api.MaxBin + 1) },
		"it is far too deep":                  func(t *Tree) { t.root = chain(1000) },
		"a step is of no sort":                func(t *Tree) { t.programs[0][0].sort = sorts },
		"a step is of no sort at all":         func(t *Tree) { t.programs[0][0].sort = maxCount },
		"an mcc is too great":                 func(t *Tree) { t.programs[1][mccStep].numbers[1] = api.MaxMcc + 1 },
		"a list has no mcc":                   func(t *Tree) { t.programs[1][mccStep].numbers = nil },
		"a list has too many mccs":            func(t *Tree) { t.programs[1][mccStep].numbers = []int{1, 2, 3, 4, 5} },
		"a cur is too great":                  func(t *Tree) { t.programs[1][curStep].numbers[0] = api.MaxCur + 1 },
		"a list has no cur":                   func(t *Tree) { t.programs[1][curStep].numbers = nil },
		"a list has too many curs":            func(t *Tree) { t.programs[1][curStep].numbers = []int{1, 2, 3, 4, 5} },
		"an amount is too great":              func(t *Tree) { t.programs[1][amountStep].numbers[1] = api.MaxAmount + 1 },
		"an amount is far too great":          func(t *Tree) { t.programs[1][amountStep].numbers[1] = 1<<32 - 1 },
		"amounts end ahead of where they are": func(t *Tree) { t.programs[1][amountStep].numbers[1] = 4 },
		"a route of an action is none":        func(t *Tree) { t.programs[1][firstStep].numbers[1] = 2 },
		"a route of a cheapest is none":       func(t *Tree) { t.programs[1][cheapestStep].numbers[1] = 2 },
		"an action names no route":            func(t *Tree) { t.programs[1][firstStep].numbers = nil },
		"a cheapest names no route":           func(t *Tree) { t.programs[1][cheapestStep].numbers = nil },
		"an action names too many routes":     func(t *Tree) { t.programs[1][firstStep].numbers = []int{0, 0, 0, 0, 0} },
		"an action is of no rule":             func(t *Tree) { t.programs[1][firstStep].rule = 2 },
		"a cheapest is of no rule":            func(t *Tree) { t.programs[1][cheapestStep].rule = 255 },
		"a decline is of no rule":             func(t *Tree) { t.programs[1][declineStep].rule = 2 },
		"no rules are named":                  func(t *Tree) { t.names = nil },
		"no routes are named":                 func(t *Tree) { t.routes = nil },
		"a guard goes on to itself":           func(t *Tree) { t.programs[1][mccStep].skip = 0 },
		"amounts go on to themselves":         func(t *Tree) { t.programs[1][amountStep].skip = 0 },
		"a cur goes on to itself":             func(t *Tree) { t.programs[1][curStep].skip = 0 },
		"a guard goes on too far":             func(t *Tree) { t.programs[1][mccStep].skip = declineStep + 1 },
		"amounts go on too far":               func(t *Tree) { t.programs[1][amountStep].skip = declineStep },
		"a cur goes on as far as can be":      func(t *Tree) { t.programs[1][curStep].skip = maxCount },
		"the last step is a guard":            func(t *Tree) { t.programs[1] = t.programs[1][:curStep+1] },
		"the only step is a guard":            func(t *Tree) { t.programs[0] = []step{{sort: askCur, skip: 1, numbers: []int{1}}} },
	} {
		tree := plainTree()
		change(tree)
		wantNone(t, tree, why)
	}
}

// The seal of what is cut off, or of what has more behind it, is a good one.
func TestBodiesThatEndTooEarlyOrTooLate(t *testing.T) {
	for _, tree := range []*Tree{plainTree(), Grow(&rules.Book{})} {
		body, _ := seal.Open(tree.Image())
		for i := range body {
			if got, ok := read(seal.Close(body[:i])); got != nil || ok {
				t.Errorf("P7: %d of %d bytes are read", i, len(body))
			}
		}
		for _, more := range []string{"\x00", "\x01", "\xff", body, strings.Repeat("\x00", 1000)} {
			if got, ok := read(seal.Close(body + more)); got != nil || ok {
				t.Errorf("P7: read with %q behind", more)
			}
		}
	}
}

// wantSound asks for all that Decide leans on.
func wantSound(t *testing.T, tree *Tree, body string) {
	t.Helper()
	if len(tree.routes) > api.MaxRoutes || len(tree.programs) == 0 {
		t.Fatalf("P7: of %q comes %+v", body, tree)
	}
	for _, program := range tree.programs {
		wantEnd(t, program)
	}
	if tree.Image() != seal.Close(body) {
		t.Fatalf("P7: what comes of %q has another image", body)
	}
}

// Each byte of a body is made each other byte, and the seal is made anew.
func TestBodiesWithOneByteChanged(t *testing.T) {
	for _, tree := range []*Tree{plainTree(), Grow(&rules.Book{})} {
		body, _ := seal.Open(tree.Image())
		for i := range body {
			for c := range 256 {
				other := body[:i] + string([]byte{byte(c)}) + body[i+1:]
				if got, ok := read(seal.Close(other)); ok {
					wantSound(t, got, other)
				}
			}
		}
	}
}
