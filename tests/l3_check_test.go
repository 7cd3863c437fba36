package tests

import (
	"fmt"
	"math/rand"
	"slices"
	"testing"

	"loop.example/s0055/impl"
)

// read answers the grammar of a text that must be right.
func read(t *testing.T, text string) impl.Grammar {
	t.Helper()
	g, code, at := impl.ParseGrammar([]byte(text))
	if code != impl.CodeOK {
		t.Fatalf("%s: code %d at %d", text, code, at)
	}
	return g
}

// nodeBodies answers the bodies of the nodes: of the rules, then the labels.
func nodeBodies(g impl.Grammar) [][]impl.Op {
	var all [][]impl.Op
	for _, r := range g.Rules {
		all = append(all, r.Body)
	}
	for _, l := range g.Labels {
		all = append(all, l.Body)
	}
	return all
}

// nodeOf answers the node that an OpRef or OpThrow means.
func nodeOf(g impl.Grammar, op impl.Op) int {
	if op.Kind == impl.OpRef {
		return op.Arg
	}
	return len(g.Rules) + op.Arg
}

// parts cuts a body into its last element and the operands of this one.
func parts(body []impl.Op) (impl.Op, [][]impl.Op) {
	last, rest := body[len(body)-1], body[:len(body)-1]
	var operands [][]impl.Op
	for len(rest) > 0 {
		before, _ := withoutLast(rest)
		operands = append([][]impl.Op{rest[len(before):]}, operands...)
		rest = before
	}
	return last, operands
}

// nullableIn tells whether an expression is nullable if these nodes are.
func nullableIn(g impl.Grammar, body []impl.Op, nodes []bool) bool {
	last, operands := parts(body)
	switch last.Kind {
	case impl.OpSet:
		return false
	case impl.OpRef, impl.OpThrow:
		return nodes[nodeOf(g, last)]
	case impl.OpSeq:
		return nullableIn(g, operands[0], nodes) && nullableIn(g, operands[1], nodes)
	case impl.OpAlt:
		return nullableIn(g, operands[0], nodes) || nullableIn(g, operands[1], nodes)
	}
	return true
}

// nullableByRounds begins with no mark and goes over all nodes until a round
// marks no more of them.
func nullableByRounds(g impl.Grammar) []bool {
	all := nodeBodies(g)
	marks := make([]bool, len(all))
	for more := true; more; {
		more = false
		for node, body := range all {
			if !marks[node] && len(body) > 0 && nullableIn(g, body, marks) {
				marks[node], more = true, true
			}
		}
	}
	return marks
}

// nullableByTrial tries every answer, and takes the one with the fewest marks
// of those for which the document's sentence holds.
func nullableByTrial(g impl.Grammar) []bool {
	all := nodeBodies(g)
	var least []bool
	fewest := len(all) + 1
	for number := range 1 << len(all) {
		marks := make([]bool, len(all))
		count := 0
		for node := range marks {
			if number>>node&1 == 1 {
				marks[node] = true
				count++
			}
		}
		holds := true
		for node, body := range all {
			if len(body) == 0 {
				holds = holds && !marks[node]
			} else {
				holds = holds && (marks[node] || !nullableIn(g, body, marks))
			}
		}
		if holds && count < fewest {
			least, fewest = marks, count
		}
	}
	return least
}

// beginsIn tells the nodes that an expression begins with.
func beginsIn(g impl.Grammar, body []impl.Op, nullable []bool) []int {
	if len(body) == 0 {
		return nil
	}
	last, operands := parts(body)
	switch last.Kind {
	case impl.OpRef, impl.OpThrow:
		return []int{nodeOf(g, last)}
	case impl.OpSeq:
		begins := beginsIn(g, operands[0], nullable)
		if nullableIn(g, operands[0], nullable) {
			begins = append(begins, beginsIn(g, operands[1], nullable)...)
		}
		return begins
	case impl.OpAlt:
		return append(beginsIn(g, operands[0], nullable), beginsIn(g, operands[1], nullable)...)
	case impl.OpStar, impl.OpNot:
		return beginsIn(g, operands[0], nullable)
	}
	return nil
}

// loopsIn tells whether an OpStar somewhere in the body repeats what is
// nullable.
func loopsIn(g impl.Grammar, body []impl.Op, nullable []bool) bool {
	for i, op := range body {
		if op.Kind == impl.OpStar {
			before, _ := withoutLast(body[:i])
			if nullableIn(g, body[len(before):i], nullable) {
				return true
			}
		}
	}
	return false
}

// checkByDocument tells what Check must answer of a valid grammar. Whether
// one can come from a node to another is told by joining ways at each node.
func checkByDocument(g impl.Grammar) (int, int) {
	all, nullable := nodeBodies(g), nullableByRounds(g)
	leads := make([][]bool, len(all))
	for node, body := range all {
		leads[node] = make([]bool, len(all))
		for _, next := range beginsIn(g, body, nullable) {
			leads[node][next] = true
		}
	}
	for middle := range all {
		for from := range all {
			for to := range all {
				leads[from][to] = leads[from][to] || leads[from][middle] && leads[middle][to]
			}
		}
	}
	for node := range all {
		if leads[node][node] {
			return impl.CodeLeft, node
		}
	}
	for node, body := range all {
		if loopsIn(g, body, nullable) {
			return impl.CodeLoop, node
		}
	}
	return impl.CodeOK, 0
}

// asDocument fails unless both answers are those that the document asks for;
// it answers the code.
func asDocument(t *testing.T, g impl.Grammar) int {
	t.Helper()
	if !impl.ValidGrammar(g) {
		t.Fatalf("not valid: %s", show(g))
	}
	if got, want := impl.Nullable(g), nullableByRounds(g); !slices.Equal(got, want) {
		t.Fatalf("%s: nullable %v, want %v", grammarText(g), got, want)
	}
	code, node := impl.Check(g)
	if wantCode, wantNode := checkByDocument(g); code != wantCode || node != wantNode {
		t.Fatalf("%s: code %d, node %d, want %d, %d", grammarText(g), code, node, wantCode, wantNode)
	}
	return code
}

// wantNullable fails unless just the nodes with a letter here are marked:
// an n for a node that is nullable, a dot for one that is not.
func wantNullable(t *testing.T, g impl.Grammar, want string) {
	t.Helper()
	got := ""
	for _, marked := range impl.Nullable(g) {
		if marked {
			got += "n"
		} else {
			got += "."
		}
	}
	if got != want {
		t.Errorf("%s: %s, want %s", grammarText(g), got, want)
	}
}

func wantCheck(t *testing.T, g impl.Grammar, code, node int) {
	t.Helper()
	if gotCode, gotNode := impl.Check(g); gotCode != code || gotNode != node {
		t.Errorf("%s: code %d, node %d, want %d, %d", grammarText(g), gotCode, gotNode, code, node)
	}
}

// known is an expression of which it is known whether it is nullable.
type known struct {
	body     []impl.Op
	nullable bool
}

// composed answers every element over such operands.
func composed(operands []known) []known {
	var all []known
	for _, x := range operands {
		all = append(all, known{slices.Concat(x.body, []impl.Op{star}), true}, known{slices.Concat(x.body, []impl.Op{not}), true})
		for _, y := range operands {
			both := slices.Concat(x.body, y.body)
			all = append(all,
				known{slices.Concat(both, []impl.Op{seq}), x.nullable && y.nullable},
				known{slices.Concat(both, []impl.Op{alt}), x.nullable || y.nullable})
		}
	}
	return all
}

// Promise 6, of what is marked: each kind of element alone, and as the
// operand of each other, in a rule and in a recovery.
func TestPromise6Elements(t *testing.T) {
	leaves := []known{
		{[]impl.Op{empty}, true},
		{[]impl.Op{set()}, false},
		{[]impl.Op{lit('a')}, false},
		{[]impl.Op{set(0, 255)}, false},
		{[]impl.Op{ref(1)}, true},
		{[]impl.Op{ref(2)}, false},
		{[]impl.Op{throw(0)}, true},
		{[]impl.Op{throw(1)}, false},
		{[]impl.Op{throw(2)}, false},
	}
	twice := append(slices.Clone(leaves), composed(leaves)...)
	for _, k := range append(twice, composed(twice)...) {
		g := impl.Grammar{
			Rules:  []impl.Rule{rule("s", k.body...), rule("t", empty), rule("u", set(0, 255), throw(2), alt)},
			Labels: []impl.Label{recovery("a", empty, star), recovery("b", lit('b')), bare("c"), recovery("d", k.body...)},
		}
		if want := []bool{k.nullable, true, false, true, false, false, k.nullable}; !slices.Equal(impl.Nullable(g), want) {
			t.Fatalf("%s: %v, want %v", grammarText(g), impl.Nullable(g), want)
		}
	}
}

func TestNullable(t *testing.T) {
	cases := []struct{ text, want string }{
		{`s = ;`, "n"},
		{`s = "a" ;`, "."},
		{`s = . ;`, "."},
		{`s = [] ;`, "."},
		{`s = "a"? ;`, "n"},
		{`s = "a" "b"? ;`, "."},
		{`s = "a"? "b" ;`, "."},
		{`s = "a"? "b"? ;`, "n"},
		{`s = "a"* ;`, "n"},
		{`s = !. ;`, "n"},
		{`s = &. ;`, "n"},
		{`s = &. . ;`, "."},
		{`s = "a" / "b" ;`, "."},
		{`s = "a" / ;`, "n"},
		{`s = / "a" ;`, "n"},
		{`s = s* ;`, "n"},
		{`s = !s ;`, "n"},

		// The least answer marks none of those that only name each other.
		{`s = s ;`, "."},
		{`s = s s ;`, "."},
		{`s = s / s ;`, "."},
		{`s = ^e ; ^e = s ;`, ".."},
		{`s = ^e s ; ^e = s / ^e ;`, ".."},
		{`s = t / "a" ; t = ^e "" ; ^e = s / . ;`, "..."},
		{`s = ^e ; ^e = s / "" ;`, "nn"},
		{`s = ^e / "" ; ^e = s ;`, "nn"},
		{`s = ^e "" ; ^e = s / "" ;`, "nn"},
		{`s = ^e . ; ^e = s / "" ;`, ".n"},

		// Labels are nodes after the rules; one without recovery has no body.
		{`s = ^e ;`, ".."},
		{`s = ^e / "" ;`, "n."},
		{`s = ^e* ;`, "n."},
		{`s = !^e ;`, "n."},
		{`s = ^e "" ;`, ".."},
		{`s = . ; ^e = "" ;`, ".n"},
		{`s = . ; ^e = . ;`, ".."},
		{`s = ^a ^c ; t = ^c ; ^a = ^b / ^c ; ^b = . ; ^c = "" ;`, "nnn.n"},
		{`s = ^c ; ^c = ^b ; ^d = ; ^a = ^d ;`, "." + "n..n"},
		{`s = ^e ; e = "" ;`, ".n."},
		{`s = e ; e = . ; ^e = "" ;`, "..n"},

		// Several rounds, whichever way the nodes are gone through.
		{`s = t ; t = u ; u = v ; v = ;`, "nnnn"},
		{`s = ; t = s ; u = t ; v = u ;`, "nnnn"},
		{`s = u ; t = ; u = ^a ; v = s ; ^a = ^b ; ^b = t ; ^c = v . ;`, "nnnn" + "nn."},
		{`s = t u ; t = u / . ; u = ^e / . ; ^e = v / . ; v = "x"* ;`, "nnnnn"},
		{`s = t u ; t = u / . ; u = ^e / . ; ^e = v / . ; v = "x" ;`, "....."},
	}
	for _, c := range cases {
		wantNullable(t, read(t, c.text), c.want)
	}
	wantNullable(t, sample(), "nn"+".nn")
}

// chain answers a grammar of all rules and labels, of which each node but
// the last names the next one; order tells which node comes when.
func chain(order []int, end impl.Op) impl.Grammar {
	g := impl.Grammar{Rules: make([]impl.Rule, impl.MaxRules), Labels: make([]impl.Label, impl.MaxLabels)}
	for i, name := range numbered(impl.MaxRules, impl.MaxName) {
		g.Rules[i].Name, g.Labels[i].Name, g.Labels[i].Has = []byte(name), []byte(name), true
	}
	for i, node := range order {
		op := end
		if i+1 < len(order) {
			op = named(order[i+1])
		}
		setBody(g, node, op)
	}
	return g
}

// named answers what names a node of a grammar of all rules and labels.
func named(node int) impl.Op {
	if node < impl.MaxRules {
		return ref(node)
	}
	return throw(node - impl.MaxRules)
}

func setBody(g impl.Grammar, node int, body ...impl.Op) {
	if node < len(g.Rules) {
		g.Rules[node].Body = body
	} else {
		g.Labels[node-len(g.Rules)].Body = body
	}
}

// orders answers all nodes of a greatest grammar in some orders.
func orders() [][]int {
	var up []int
	for node := range impl.MaxRules + impl.MaxLabels {
		up = append(up, node)
	}
	down := slices.Clone(up)
	slices.Reverse(down)
	all := [][]int{up, down}
	chance := rand.New(rand.NewSource(7))
	for range 10 {
		all = append(all, chance.Perm(len(up)))
	}
	return all
}

// A mark goes through as many nodes as there can be.
func TestNullableLongChains(t *testing.T) {
	for _, order := range orders() {
		for end, want := range map[int]bool{impl.OpEmpty: true, impl.OpSet: false} {
			got := impl.Nullable(chain(order, impl.Op{Kind: end}))
			if len(got) != len(order) || slices.Contains(got, !want) {
				t.Errorf("order %v: %v, want all %v", order, got, want)
			}
		}
		wantCheck(t, chain(order, empty), impl.CodeOK, 0)
		wantCheck(t, chain(order, set()), impl.CodeOK, 0)
	}
}

// Each node of the greatest grammar by itself: nullable, a loop, or left
// recursive.
func TestEveryNode(t *testing.T) {
	count := impl.MaxRules + impl.MaxLabels
	for node := range count {
		g := chain(orders()[0], set())
		for other := range count {
			setBody(g, other, lit('a'))
		}
		wantCheck(t, g, impl.CodeOK, 0)
		setBody(g, node, empty)
		want := make([]bool, count)
		want[node] = true
		if got := impl.Nullable(g); !slices.Equal(got, want) {
			t.Errorf("node %d: %v", node, got)
		}
		wantCheck(t, g, impl.CodeOK, 0)
		setBody(g, node, empty, star)
		wantCheck(t, g, impl.CodeLoop, node)
		setBody(g, node, named(node))
		wantCheck(t, g, impl.CodeLeft, node)
		setBody(g, node, lit('a'), named(node), seq)
		wantCheck(t, g, impl.CodeOK, 0)
	}
}

// A ring through all nodes is left recursive from its smallest one on; one
// that leaves the first nodes out is so from the smallest that it holds.
func TestLongRings(t *testing.T) {
	count := impl.MaxRules + impl.MaxLabels
	for back := range count {
		for i, order := range orders()[:3] {
			g := chain(order, named(order[back]))
			wantCheck(t, g, impl.CodeLeft, slices.Min(order[back:]))
			if got := impl.Nullable(g); slices.Contains(got, true) {
				t.Errorf("order %d, back to %d: %v", i, back, got)
			}
		}
	}
}

func TestCheck(t *testing.T) {
	const ok, left, loop = impl.CodeOK, impl.CodeLeft, impl.CodeLoop
	cases := []struct {
		text string
		code int
		node int
	}{
		{`s = ;`, ok, 0},
		{`s = "a" "b"* !. ;`, ok, 0},
		{`s = "a" s / "b" ;`, ok, 0},
		{`s = "(" s ")" / t ; t = "x" s / "y" t* ;`, ok, 0},

		// Left recursion, through a rule and through a recovery.
		{`s = s ;`, left, 0},
		{`s = s "a" / "a" ;`, left, 0},
		{`s = "a" / s "a" ;`, left, 0},
		{`s = t "a" ; t = s / "b" ;`, left, 0},
		{`s = . ; t = u ; u = t ;`, left, 1},
		{`s = ^e ; ^e = s ;`, left, 0},
		{`s = "a" / ^e "b" ; ^e = s "c" / . ;`, left, 0},
		{`s = . ; ^e = ^e ;`, left, 1},
		{`s = . ; ^e = ^f ; ^f = ^e ;`, left, 1},
		{`s = . ; ^e = . ; ^f = ^g ; ^g = ^f ;`, left, 2},
		{`s = "a" ^e ; ^e = t ; t = "b" / ^e ;`, left, 1},
		{`s = t ; t = u ; u = ^a ; ^a = ^b ; ^b = v ; v = s ;`, left, 0},

		// A label without recovery begins with nothing.
		{`s = ^e ;`, ok, 0},
		{`s = ^e s ;`, ok, 0},
		{`s = (^e / "") s ;`, left, 0},
		{`s = ^e / ^f ; ^f = ^e / . ;`, ok, 0},

		// Behind a left operand that can match nothing, and none behind a byte.
		{`s = "" s ;`, left, 0},
		{`s = "a"? s ;`, left, 0},
		{`s = "a"* s ;`, left, 0},
		{`s = !"a" s ;`, left, 0},
		{`s = &"a" s ;`, left, 0},
		{`s = t s ; t = "" / "a" ;`, left, 0},
		{`s = ^e s ; ^e = "a"* ;`, left, 0},
		{`s = "" ("" s) ;`, left, 0},
		{`s = "" "" "a" s ;`, ok, 0},
		{`s = ("" "a") s ;`, ok, 0},
		{`s = "a" s ;`, ok, 0},
		{`s = [] s ;`, ok, 0},
		{`s = !"a" . s ;`, ok, 0},
		{`s = ("a" / "b") s ;`, ok, 0},
		{`s = t s ; t = "a" ;`, ok, 0},
		{`s = ^e s ; ^e = . ;`, ok, 0},
		{`s = "a" / ^e ; ^e = . s ;`, ok, 0},
		{`s = "a" ^e ; ^e = s ;`, ok, 0},
		{`s = s / "" ;`, left, 0},
		{`s = t u ; t = "a" / ; u = s ;`, left, 0},
		{`s = t u ; t = "a" ; u = s ;`, ok, 0},

		// Inside a star and a not.
		{`s = s* ;`, left, 0},
		{`s = (s "a")* ;`, left, 0},
		{`s = ("a" s)* ;`, ok, 0},
		{`s = !s ;`, left, 0},
		{`s = &s ;`, left, 0},
		{`s = !("a" s) . ;`, ok, 0},
		{`s = . ; t = !^e ; ^e = (t .)* ;`, left, 1},

		// The smallest node that is so: one that only leads there is not.
		{`s = t ; t = t ;`, left, 1},
		{`s = t ; t = u ; u = v ; v = u ;`, left, 2},
		{`s = ^e ; t = . ; ^e = ^f ; ^f = u ; u = ^f ;`, left, 2},
		{`s = t / ^e ; t = . ; ^e = ^e ;`, left, 2},
		{`s = . ; t = t ; u = u ;`, left, 1},
		{`s = . ; u = ^a / v ; v = v ; ^a = u ;`, left, 1},
		{`s = u ; t = u ; u = t / . ; v = v ;`, left, 1},
		{`s = a / b ; a = "x" / b ; b = a / c ; c = "y" ;`, left, 1},

		// Loops, in a rule and in a recovery, and the smallest node of several.
		{`s = ""* ;`, loop, 0},
		{`s = ("a"*)* ;`, loop, 0},
		{`s = (!"a")* ;`, loop, 0},
		{`s = ("a"?)* ;`, loop, 0},
		{`s = ("a"? "b"?)* ;`, loop, 0},
		{`s = ("a"? "b")* ;`, ok, 0},
		{`s = "x" ("y" / !(""* "z")) ;`, loop, 0},
		{`s = ((""*)* "a")* ;`, loop, 0},
		{`s = . ; t = "a"* ; u = ("b" / "")* ;`, loop, 2},
		{`s = . ; t = ""* ; u = ""* ;`, loop, 1},
		{`s = t* ; t = "a" / u ; u = ;`, loop, 0},
		{`s = t* ; t = "a" u ; u = ;`, ok, 0},
		{`s = . ; ^e = ""* ;`, loop, 1},
		{`s = . ; t = . ; ^a = . ; ^e = (!.)* ; ^f = ""* ;`, loop, 3},
		{`s = ^e* ; ^e = "" ;`, loop, 0},
		{`s = ^e* ; ^e = . ;`, ok, 0},
		{`s = ^e* ;`, ok, 0},
		{`s = "a" ^e ; ^e = s* ;`, ok, 0},
		{`s = "a"? ^e ; ^e = "b" s* ;`, ok, 0},
		{`s = "a"? / "c" ^e ; ^e = "b" s* ;`, loop, 1},
		{`s = []* ;`, ok, 0},

		// Left recursion is looked for first, wherever the loop is.
		{`s = ""* ; t = t ;`, left, 1},
		{`s = ""* ; t = ""* ; ^e = ^e ;`, left, 2},
		{`s = s / ""* ;`, left, 0},
		{`s = . ; t = t ; u = ""* ;`, left, 1},
		{`s = (s*)* ;`, left, 0},
	}
	for _, c := range cases {
		g := read(t, c.text)
		wantCheck(t, g, c.code, c.node)
		asDocument(t, g)
	}
}

// Every small body as a rule and as a recovery that name each other.
func TestPromise7SmallGrammars(t *testing.T) {
	var right [][]impl.Op
	bodies(3, []impl.Op{empty, lit('a'), ref(0), throw(0), throw(1), seq, alt, star, not}, func(body []impl.Op) {
		if rest, found := withoutLast(body); found && len(rest) == 0 {
			right = append(right, body)
		}
	})
	codes := map[int]int{}
	for _, first := range right {
		for _, second := range right {
			g := impl.Grammar{
				Rules:  []impl.Rule{rule("s", first...), rule("t", throw(1))},
				Labels: []impl.Label{recovery("a", second...), bare("b")},
			}
			codes[asDocument(t, g)]++
			if got, want := impl.Nullable(g), nullableByTrial(g); !slices.Equal(got, want) {
				t.Fatalf("%s: %v, want %v", grammarText(g), got, want)
			}
		}
	}
	if codes[impl.CodeOK] == 0 || codes[impl.CodeLeft] == 0 || codes[impl.CodeLoop] == 0 {
		t.Errorf("codes %v: the test looks at some sides only", codes)
	}
}

// Every body of up to six elements in a rule that names itself and others.
func TestPromise7Bodies(t *testing.T) {
	bodies(6, []impl.Op{lit('a'), ref(0), ref(1), seq, alt, star}, func(body []impl.Op) {
		if rest, found := withoutLast(body); found && len(rest) == 0 {
			asDocument(t, impl.Grammar{Rules: []impl.Rule{rule("s", body...), rule("t", empty)}})
		}
	})
}

// thinGrammar is a grammar by chance in which nodes lead on to few others, so
// that ways are long and of all sorts.
func thinGrammar(chance *rand.Rand, rules, labels int) impl.Grammar {
	var g impl.Grammar
	body := func() []impl.Op {
		ops := []impl.Op{[]impl.Op{lit('a'), lit('b'), set(), empty}[chance.Intn(4)]}
		for range chance.Intn(3) {
			next := ref(chance.Intn(rules))
			if labels > 0 && chance.Intn(2) == 0 {
				next = throw(chance.Intn(labels))
			}
			join := []impl.Op{seq, seq, seq, alt}[chance.Intn(4)]
			if chance.Intn(3) == 0 {
				ops = slices.Concat([]impl.Op{next}, ops, []impl.Op{join})
			} else {
				ops = append(ops, next, join)
			}
			if chance.Intn(8) == 0 {
				ops = append(ops, []impl.Op{star, not}[chance.Intn(2)])
			}
		}
		return ops
	}
	for _, name := range numbered(rules, 4) {
		g.Rules = append(g.Rules, rule(name, body()...))
	}
	for i, name := range numbered(labels, 4) {
		if chance.Intn(4) > 0 {
			g.Labels = append(g.Labels, recovery(name, body()...))
		} else {
			g.Labels = append(g.Labels, bare(name))
			g.Rules[0].Body = append(g.Rules[0].Body, throw(i), seq)
		}
	}
	return g
}

// Promises 6 and 7 of grammars by chance, small and great.
func TestPromise7ByChance(t *testing.T) {
	chance := rand.New(rand.NewSource(8))
	codes, nodes := map[int]int{}, map[int]int{}
	for i := range 6000 {
		g := chanceGrammar(chance, 1+i%12)
		codes[asDocument(t, g)]++
		if len(g.Rules)+len(g.Labels) <= 7 && !slices.Equal(impl.Nullable(g), nullableByTrial(g)) {
			t.Fatalf("%s: %v", grammarText(g), impl.Nullable(g))
		}
	}
	for i := range 3000 {
		g := thinGrammar(chance, 1+chance.Intn(1+i%30), chance.Intn(1+i%30))
		codes[asDocument(t, g)]++
		_, node := impl.Check(g)
		nodes[node]++
	}
	for range 20 {
		asDocument(t, thinGrammar(chance, impl.MaxRules, impl.MaxLabels))
	}
	if codes[impl.CodeOK] < 200 || codes[impl.CodeLeft] < 200 || codes[impl.CodeLoop] < 200 || len(nodes) < 10 {
		t.Errorf("codes %v, nodes %v: the test looks at some sides only", codes, nodes)
	}
}

// meaning tells what expressions mean at an offset, as 2.1 and 4.2 say it.
type meaning struct {
	g     impl.Grammar
	input string
	left  int // how much work may still be done
}

const (
	matched = iota
	failed
	ended // by a label without recovery, or as the work is used up
)

func (m *meaning) of(body []impl.Op, at int, inNot bool) (int, int) {
	if m.left--; m.left < 0 {
		return ended, 0
	}
	last, operands := parts(body)
	switch last.Kind {
	case impl.OpSet:
		for i := 0; i < len(last.Set) && at < len(m.input); i += 2 {
			if b := int(m.input[at]); last.Set[i] <= b && b <= last.Set[i+1] {
				return matched, at + 1
			}
		}
		return failed, 0
	case impl.OpRef:
		return m.of(m.g.Rules[last.Arg].Body, at, inNot)
	case impl.OpThrow:
		switch l := m.g.Labels[last.Arg]; {
		case inNot:
			return failed, 0
		case l.Has:
			return m.of(l.Body, at, inNot)
		}
		return ended, 0
	case impl.OpSeq:
		if how, to := m.of(operands[0], at, inNot); how != matched {
			return how, 0
		} else {
			return m.of(operands[1], to, inNot)
		}
	case impl.OpAlt:
		if how, to := m.of(operands[0], at, inNot); how != failed {
			return how, to
		}
		return m.of(operands[1], at, inNot)
	case impl.OpStar:
		for {
			how, to := m.of(operands[0], at, inNot)
			if how == failed {
				return matched, at
			}
			if how == ended {
				return ended, 0
			}
			at = to
		}
	case impl.OpNot:
		switch how, _ := m.of(operands[0], at, true); how {
		case matched:
			return failed, 0
		case failed:
			return matched, at
		}
		return ended, 0
	}
	return matched, at
}

// Promise 6: a rule that is not marked takes a byte if it matches.
func TestPromise6(t *testing.T) {
	chance := rand.New(rand.NewSource(9))
	inputs := []string{"", "a", "b", "ab", "ba", "aab", "\x07a"}
	took, stayed := 0, 0
	look := func(g impl.Grammar) {
		for i, marked := range impl.Nullable(g)[:len(g.Rules)] {
			for _, input := range inputs {
				m := meaning{g, input, 300}
				how, to := m.of(g.Rules[i].Body, 0, false)
				switch {
				case how == matched && to == 0 && !marked:
					t.Fatalf("%s: rule %d matches nothing of %q", grammarText(g), i, input)
				case how == matched && to == 0:
					stayed++
				case how == matched && !marked:
					took++
				}
			}
		}
	}
	for i := range 4000 {
		look(chanceGrammar(chance, 1+i%10))
		look(thinGrammar(chance, 1+i%8, i%5))
	}
	if took < 1000 || stayed < 1000 {
		t.Errorf("%d matches took a byte, %d did not: the test looks at one side only", took, stayed)
	}
}

// notChecked fails unless the grammar is refused by both functions.
func notChecked(t *testing.T, what string, g impl.Grammar) {
	t.Helper()
	code, node := impl.Check(g)
	if marks := impl.Nullable(g); len(marks) != 0 || code != impl.CodeBad || node != 0 {
		t.Errorf("%s: %v, code %d, node %d", what, marks, code, node)
	}
}

func TestCheckNotValid(t *testing.T) {
	for _, c := range faults {
		notChecked(t, c.what, changed(c))
	}
	// What is wrong is wrong beside left recursion and loops too.
	notChecked(t, "two rules of one name", impl.Grammar{Rules: []impl.Rule{rule("s", ref(0)), rule("s", empty, star)}})
	notChecked(t, "a bare label that is never thrown", impl.Grammar{Rules: []impl.Rule{rule("s", ref(0))}, Labels: []impl.Label{bare("e")}})
	for _, n := range far {
		for _, op := range []impl.Op{{Kind: n}, {Arg: n}, set(n, n), set(0, n), set(n), ref(n), throw(n), {Kind: impl.OpStar, Arg: n}} {
			notChecked(t, "far", impl.Grammar{Rules: []impl.Rule{rule("s", op)}})
			notChecked(t, "far", impl.Grammar{Rules: []impl.Rule{rule("s", empty, empty, op)}})
			notChecked(t, "far", impl.Grammar{Rules: []impl.Rule{rule("s", ref(0)), rule("t", op)}})
			notChecked(t, "far", impl.Grammar{Rules: []impl.Rule{rule("s", empty)}, Labels: []impl.Label{recovery("e", op)}})
			notBare := impl.Label{Name: []byte("e"), Body: []impl.Op{op}}
			notChecked(t, "far", impl.Grammar{Rules: []impl.Rule{rule("s", throw(0))}, Labels: []impl.Label{notBare}})
		}
	}
	for _, n := range []int{impl.MaxRules + 1, 1000, 100000} {
		notChecked(t, "too many rules", manyRules(n))
		notChecked(t, "too many labels", manyLabels(n))
		notChecked(t, "too many rules without anything", impl.Grammar{Rules: make([]impl.Rule, n)})
	}
}

// Grammars wrong by chance: refused exactly if they are not valid.
func TestCheckAnyGrammar(t *testing.T) {
	chance := rand.New(rand.NewSource(10))
	numbers := append([]int{-1, 0, 1, 2, 3, 4, 5, 6, 7, 8, 255, 256}, far...)
	valid := 0
	for range 10000 {
		g := chanceGrammar(chance, 6)
		body := g.Rules[chance.Intn(len(g.Rules))].Body
		n := numbers[chance.Intn(len(numbers))]
		switch op := &body[chance.Intn(len(body))]; chance.Intn(3) {
		case 0:
			op.Kind = n
		case 1:
			op.Arg = n
		case 2:
			op.Set = append(op.Set, n)
		}
		if impl.ValidGrammar(g) {
			valid++
			asDocument(t, g)
		} else {
			notChecked(t, show(g), g)
		}
	}
	if valid < 100 || valid > 9900 {
		t.Errorf("%d valid grammars: the test looks at one side only", valid)
	}
}

// ops joins parts of a body.
func ops(lists ...[]impl.Op) []impl.Op { return slices.Concat(lists...) }

// Bodies as long and as deep as the limit allows.
func TestCheckLongBodies(t *testing.T) {
	one := func(body []impl.Op, null bool, code int) {
		t.Helper()
		g := impl.Grammar{Rules: []impl.Rule{rule("s", body...)}}
		if len(body) < impl.MaxOps-1 || !impl.ValidGrammar(g) {
			t.Fatalf("no edge: %d elements", len(body))
		}
		if got := impl.Nullable(g); len(got) != 1 || got[0] != null {
			t.Errorf("%v: nullable %v", body[:4], got)
		}
		wantCheck(t, g, code, 0)
	}
	const most = impl.MaxOps
	half := most / 2
	one(ops(times(1, empty), times(most-1, star)), true, impl.CodeLoop)
	one(ops(times(1, lit('a')), times(1, star), times(most-2, not)), true, impl.CodeOK)
	one(ops(times(1, ref(0)), times(most-1, star)), true, impl.CodeLeft)
	one(ops(times(1, ref(0)), times(most-1, not)), true, impl.CodeLeft)
	for name, last := range map[string]impl.Op{"byte": lit('b'), "self": ref(0), "nothing": empty} {
		null := name == "nothing"
		code := impl.CodeOK
		if name == "self" {
			code = impl.CodeLeft
		}
		one(ops(times(1, last), times(half-1, empty, seq)), null, code)
		one(ops(times(half-1, empty), times(1, last), times(half-1, seq)), null, code)
		one(ops(times(1, last), times(half-1, set(), alt)), null, code)
		one(ops(times(half-1, set()), times(1, last), times(half-1, alt)), null, code)
	}
	one(ops(times(half-1, lit('a')), times(1, ref(0)), times(half-1, seq)), false, impl.CodeOK)
	one(ops(times(half-1, lit('a')), times(1, ref(0)), times(half-1, alt)), false, impl.CodeLeft)
	one(ops(times(half, ref(0)), times(half-1, alt)), false, impl.CodeLeft)
	one(ops(times(half, ref(0)), times(half-1, seq)), false, impl.CodeLeft)
	for _, c := range goodChanges {
		if g := changed(c); c.what != "all elements in one recovery" && c.what != "all elements in one rule" {
			asDocument(t, g)
		} else {
			wantNullable(t, g, "nnn")
			wantCheck(t, g, impl.CodeLoop, map[bool]int{true: 0, false: 2}[c.what == "all elements in one rule"])
		}
	}
}

// The most work that the limits allow: a great body that names all nodes, of
// which each mark makes one more to be found.
func TestCheckMostWork(t *testing.T) {
	for _, order := range orders() {
		g := chain(order, empty)
		for _, c := range []struct {
			join impl.Op
			code int
			node int
		}{{alt, impl.CodeLeft, order[0]}, {seq, impl.CodeOK, 0}} {
			// In a sequence the empty set stands before all that is named.
			body := []impl.Op{set()}
			for len(body) < impl.MaxOps-len(order)-2 {
				body = append(body, named(order[len(body)/2%len(order)]), c.join)
			}
			setBody(g, order[0], body...)
			want := slices.Repeat([]bool{true}, len(order))
			want[order[0]] = c.join.Kind == impl.OpAlt
			if got := impl.Nullable(g); !slices.Equal(got, want) {
				t.Errorf("order %v: %v", order, got)
			}
			wantCheck(t, g, c.code, c.node)
		}
	}
}

func TestCheckKeepsArguments(t *testing.T) {
	grammars := []impl.Grammar{sample(), manyOps(3, 4, 5), changed(faults[len(faults)-1]), manyRules(impl.MaxRules), chain(orders()[0], empty)}
	chance := rand.New(rand.NewSource(11))
	for range 100 {
		grammars = append(grammars, chanceGrammar(chance, 12), thinGrammar(chance, 5, 3))
	}
	for _, c := range grammars {
		g, whole := withRoom(c)
		before := roomShown(whole)
		marks, again := impl.Nullable(g), impl.Nullable(g)
		code, node := impl.Check(g)
		apart(t, append(memories("argument", g), memory("marks", marks), memory("marks again", again)))
		told := fmt.Sprint(again)
		for i := range marks[:cap(marks)] {
			marks[:cap(marks)][i] = !marks[:cap(marks)][i]
		}
		if got := roomShown(whole); got != before {
			t.Fatalf("an argument is changed: %s, it was %s", got, before)
		}
		codeAgain, nodeAgain := impl.Check(g)
		if fmt.Sprint(again) != told || fmt.Sprint(impl.Nullable(g)) != told || code != codeAgain || node != nodeAgain {
			t.Fatalf("%s: the answers are not the same every time", show(g))
		}
	}
}

// The names, the sets and unused room play no part in what is answered.
func TestCheckLooksAtShapes(t *testing.T) {
	chance := rand.New(rand.NewSource(12))
	for range 300 {
		g := thinGrammar(chance, 1+chance.Intn(6), chance.Intn(6))
		marks := impl.Nullable(g)
		code, node := impl.Check(g)
		for i := range g.Rules {
			g.Rules[i].Name = []byte(fmt.Sprintf("z%d", len(g.Rules)-i))
		}
		for i := range g.Labels {
			g.Labels[i].Name = []byte(fmt.Sprintf("z%03d", i))
		}
		for _, body := range nodeBodies(g) {
			for i := range body {
				if body[i].Kind == impl.OpSet {
					body[i].Set = [][]int{nil, {}, {0, 0}, {0, 255}, {3, 4, 9, 9}}[chance.Intn(5)]
				}
			}
		}
		if !slices.Equal(impl.Nullable(g), marks) {
			t.Fatalf("%s: %v, it was %v", grammarText(g), impl.Nullable(g), marks)
		}
		wantCheck(t, g, code, node)
	}
}
