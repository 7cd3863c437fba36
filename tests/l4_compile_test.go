package tests

import (
	"fmt"
	"math/rand"
	"slices"
	"strings"
	"testing"

	"loop.example/s0055/impl"
)

func TestMachineConstants(t *testing.T) {
	kinds := []int{
		impl.InsTest, impl.InsChoice, impl.InsCommit, impl.InsPartial, impl.InsNot, impl.InsTwice, impl.InsCall,
		impl.InsRet, impl.InsThrow, impl.InsOpen, impl.InsError, impl.InsClose, impl.InsEnd,
	}
	if len(kinds) != len(kindNames) {
		t.Fatalf("%d kinds, %d names", len(kinds), len(kindNames))
	}
	for want, got := range kinds {
		if got != want {
			t.Errorf("%s is %d, want %d", kindNames[want], got, want)
		}
	}
	others := []int{impl.EvOpen, impl.EvError, impl.EvClose, impl.MaxFuel, impl.MaxStack, impl.MaxSet}
	if !slices.Equal(others, []int{0, 1, 2, 50000, 1000, 512}) {
		t.Errorf("events and limits %v", others)
	}
}

// kindNames are the kinds of instructions in the order of the document.
var kindNames = strings.Fields("test choice commit partial not twice call ret throw open error close end")

// listing tells a program, each instruction as name(Arg)>To[Set]; a part that
// is zero is left out.
func listing(prog []impl.Ins) string {
	var told []string
	for _, ins := range prog {
		one := fmt.Sprintf("kind%d", ins.Kind)
		if 0 <= ins.Kind && ins.Kind < len(kindNames) {
			one = kindNames[ins.Kind]
		}
		if ins.Arg != 0 {
			one += fmt.Sprintf("(%d)", ins.Arg)
		}
		if ins.To != 0 {
			one += fmt.Sprintf(">%d", ins.To)
		}
		if len(ins.Set) > 0 {
			one += strings.ReplaceAll(fmt.Sprint(ins.Set), " ", ",")
		}
		told = append(told, one)
	}
	return strings.Join(told, " ")
}

// compiled answers the program of a grammar that must be valid.
func compiled(t *testing.T, g impl.Grammar) []impl.Ins {
	t.Helper()
	prog, code := impl.Compile(g)
	if code != impl.CodeOK || len(prog) == 0 {
		t.Fatalf("%s: code %d, %d instructions", show(g), code, len(prog))
	}
	return prog
}

// Promise 8: the instructions of every element, alone and as an operand. The
// body begins at 3; behind one of n instructions the rule t begins at 5 + n
// and the recovery of e at 9 + n.
func TestPromise8Elements(t *testing.T) {
	for _, c := range []struct {
		body, want string
		size       int
	}{
		{`""`, "", 0},
		{`"x"`, "test[120,120]", 1},
		{`[]`, "test", 1},
		{`.`, "test[0,255]", 1},
		{`[a-cx\xff]`, "test[97,99,120,120,255,255]", 1},
		{`s`, "call>2", 1},
		{`t`, "call>6", 1},
		{`^a`, "throw>-1", 1},
		{`^e`, "throw(1)>10", 1},

		{`"x" "y"`, "test[120,120] test[121,121]", 2},
		{`"" ""`, "", 0},
		{`"x" ""`, "test[120,120]", 1},
		{`"" "x"`, "test[120,120]", 1},
		{`"xyz"`, "test[120,120] test[121,121] test[122,122]", 3},
		{`"x" ("y" "z")`, "test[120,120] test[121,121] test[122,122]", 3},
		{`s t ^a ^e`, "call>2 call>9 throw>-1 throw(1)>13", 4},
		{`("x" / "y") ("z" / "w")`, "choice>6 test[120,120] commit>7 test[121,121] choice>10 test[122,122] commit>11 test[119,119]", 8},
		{`"x"* !"y"`, "choice>6 test[120,120] partial>4 not>9 test[121,121] twice", 6},
		{`!"x" "y"*`, "not>6 test[120,120] twice choice>9 test[121,121] partial>7", 6},

		{`"x" / "y"`, "choice>6 test[120,120] commit>7 test[121,121]", 4},
		{`"" / ""`, "choice>5 commit>5", 2},
		{`"x"?`, "choice>6 test[120,120] commit>6", 3},
		{`"" / "x"`, "choice>5 commit>6 test[120,120]", 3},
		{`t / s`, "choice>6 call>9 commit>7 call>2", 4},
		{`^e / ^a`, "choice>6 throw(1)>13 commit>7 throw>-1", 4},
		{`^a / ^e`, "choice>6 throw>-1 commit>7 throw(1)>13", 4},
		{`"x" "y" / "z" "w"`, "choice>7 test[120,120] test[121,121] commit>9 test[122,122] test[119,119]", 6},
		{`"x" / "y" / "z"`, "choice>9 choice>7 test[120,120] commit>8 test[121,121] commit>10 test[122,122]", 7},
		{`"x" / ("y" / "z")`, "choice>6 test[120,120] commit>10 choice>9 test[121,121] commit>10 test[122,122]", 7},
		{`"x"* / !"y"`, "choice>8 choice>7 test[120,120] partial>5 commit>11 not>11 test[121,121] twice", 8},
		{`!"x" / "y"*`, "choice>8 not>7 test[120,120] twice commit>11 choice>11 test[121,121] partial>9", 8},

		{`"x"*`, "choice>6 test[120,120] partial>4", 3},
		{`""*`, "choice>5 partial>4", 2},
		{`t*`, "choice>6 call>8 partial>4", 3},
		{`^a*`, "choice>6 throw>-1 partial>4", 3},
		{`^e*`, "choice>6 throw(1)>12 partial>4", 3},
		{`("x" "y")*`, "choice>7 test[120,120] test[121,121] partial>4", 4},
		{`("x" / "y")*`, "choice>9 choice>7 test[120,120] commit>8 test[121,121] partial>4", 6},
		{`("x"*)*`, "choice>8 choice>7 test[120,120] partial>5 partial>4", 5},
		{`(!"x")*`, "choice>8 not>7 test[120,120] twice partial>4", 5},

		{`!"x"`, "not>6 test[120,120] twice", 3},
		{`!""`, "not>5 twice", 2},
		{`!t`, "not>6 call>8 twice", 3},
		{`!^a`, "not>6 throw>-1 twice", 3},
		{`!^e`, "not>6 throw(1)>12 twice", 3},
		{`!("x" "y")`, "not>7 test[120,120] test[121,121] twice", 4},
		{`!("x" / "y")`, "not>9 choice>7 test[120,120] commit>8 test[121,121] twice", 6},
		{`!"x"*`, "not>8 choice>7 test[120,120] partial>5 twice", 5},
		{`!!"x"`, "not>8 not>7 test[120,120] twice twice", 5},
		{`&"x"`, "not>8 not>7 test[120,120] twice twice", 5},
	} {
		g := read(t, "s = "+c.body+" ; t = ^a ; ^e = [e] ;")
		want := "call>2 end open " + c.want + " close ret open(1) throw>-1 close ret error(1) test[101,101] close ret"
		prog := compiled(t, g)
		if got := listing(prog); got != strings.Join(strings.Fields(want), " ") || len(prog) != c.size+13 {
			t.Errorf("%s: %s, want %s", c.body, got, want)
		}
	}
}

// Where rules and labels begin, told apart by Arg and To.
func TestPromise8Nodes(t *testing.T) {
	for _, c := range []struct{ text, want string }{
		{`s = "a"* ;`, "call>2 end open choice>6 test[97,97] partial>4 close ret"},
		{`s = "" ;`, "call>2 end open close ret"},
		{`a = c ; b = a ; c = b ;`, "call>2 end open call>10 close ret open(1) call>2 close ret open(2) call>6 close ret"},
		{`s = ^z ^a ^m ; ^m = "" ; ^a = s ;`, "call>2 end open throw(2)>-1 throw>8 throw(1)>12 close ret error call>2 close ret error(1) close ret"},
		{`s = "" ; ^e = ^e ;`, "call>2 end open close ret error throw>5 close ret"},
		{`s = "" ; ^e = "" ; ^f = ^e ; ^d = ^g ;`, "call>2 end open close ret error throw(3)>-1 close ret error(1) close ret error(2) throw(1)>9 close ret"},
		{`^e = t ; s = ^e ; t = ^e ;`, "call>2 end open throw>10 close ret open(1) throw>10 close ret error call>6 close ret"},
		{`s = ^a ^b ^c ;`, "call>2 end open throw>-1 throw(1)>-1 throw(2)>-1 close ret"},
	} {
		if got := listing(compiled(t, read(t, c.text))); got != c.want {
			t.Errorf("%s: %s, want %s", c.text, got, c.want)
		}
	}
}

// assembly is a program as the document tells it: instructions lead to marks,
// whose places are filled in at the end.
type assembly struct {
	prog  []impl.Ins
	leads map[int]string // the mark that an instruction leads to
	marks map[string]int
}

func (a *assembly) put(ins impl.Ins, mark string) {
	if mark != "" {
		a.leads[len(a.prog)] = mark
	}
	a.prog = append(a.prog, ins)
}

// fresh answers marks that were not there before; they are not set yet.
func (a *assembly) fresh(names ...string) (string, string) {
	first := fmt.Sprint(names[0], len(a.marks))
	a.marks[first] = -7
	second := fmt.Sprint(names[1], len(a.marks))
	a.marks[second] = -7
	return first, second
}

func (a *assembly) mark(name string) { a.marks[name] = len(a.prog) }

func (a *assembly) expression(body []impl.Op) {
	last, operands := parts(body)
	switch last.Kind {
	case impl.OpSet:
		a.put(impl.Ins{Kind: impl.InsTest, Set: last.Set}, "")
	case impl.OpRef:
		a.put(impl.Ins{Kind: impl.InsCall}, fmt.Sprint("rule ", last.Arg))
	case impl.OpThrow:
		a.put(impl.Ins{Kind: impl.InsThrow, Arg: last.Arg}, fmt.Sprint("label ", last.Arg))
	case impl.OpSeq:
		a.expression(operands[0])
		a.expression(operands[1])
	case impl.OpAlt:
		A, B := a.fresh("A", "B")
		a.put(impl.Ins{Kind: impl.InsChoice}, A)
		a.expression(operands[0])
		a.put(impl.Ins{Kind: impl.InsCommit}, B)
		a.mark(A)
		a.expression(operands[1])
		a.mark(B)
	case impl.OpStar:
		A, B := a.fresh("A", "B")
		a.put(impl.Ins{Kind: impl.InsChoice}, B)
		a.mark(A)
		a.expression(operands[0])
		a.put(impl.Ins{Kind: impl.InsPartial}, A)
		a.mark(B)
	case impl.OpNot:
		_, B := a.fresh("A", "B")
		a.put(impl.Ins{Kind: impl.InsNot}, B)
		a.expression(operands[0])
		a.put(impl.Ins{Kind: impl.InsTwice}, "")
		a.mark(B)
	}
}

func compiledByDocument(g impl.Grammar) []impl.Ins {
	a := assembly{leads: map[int]string{}, marks: map[string]int{}}
	node := func(mark string, first impl.Ins, body []impl.Op) {
		a.mark(mark)
		a.put(first, "")
		a.expression(body)
		a.put(impl.Ins{Kind: impl.InsClose}, "")
		a.put(impl.Ins{Kind: impl.InsRet}, "")
	}
	a.put(impl.Ins{Kind: impl.InsCall}, "rule 0")
	a.put(impl.Ins{Kind: impl.InsEnd}, "")
	for i, r := range g.Rules {
		node(fmt.Sprint("rule ", i), impl.Ins{Kind: impl.InsOpen, Arg: i}, r.Body)
	}
	for i, l := range g.Labels {
		a.marks[fmt.Sprint("label ", i)] = -1
		if l.Has {
			node(fmt.Sprint("label ", i), impl.Ins{Kind: impl.InsError, Arg: i}, l.Body)
		}
	}
	for i, mark := range a.leads {
		a.prog[i].To = a.marks[mark]
	}
	return a.prog
}

// asCompiled fails unless the program of a valid grammar is the document's.
func asCompiled(t *testing.T, g impl.Grammar) []impl.Ins {
	t.Helper()
	prog := compiled(t, g)
	if got, want := listing(prog), listing(compiledByDocument(g)); got != want {
		t.Fatalf("%s: %s, want %s", show(g), got, want)
	}
	for i, ins := range prog {
		if outside := ins.To < 0 || ins.To >= len(prog); outside && (ins.Kind != impl.InsThrow || ins.To != -1 || g.Labels[ins.Arg].Has) {
			t.Fatalf("%s: instruction %d leads to %d", show(g), i, ins.To)
		}
	}
	return prog
}

// Promise 8: every element as the operand of every other, two levels deep.
func TestPromise8Bodies(t *testing.T) {
	count := 0
	bodies(5, []impl.Op{empty, lit('a'), ref(0), ref(1), throw(0), throw(1), seq, alt, star, not}, func(body []impl.Op) {
		if rest, found := withoutLast(body); !found || len(rest) > 0 {
			return
		}
		count++
		labels := []impl.Label{bare("d"), recovery("e", throw(0))}
		asCompiled(t, impl.Grammar{Rules: []impl.Rule{rule("s", body...), rule("t", empty)}, Labels: labels})
		if len(body) < 5 {
			asCompiled(t, impl.Grammar{Rules: []impl.Rule{rule("s", lit('b')), rule("t", body...)}, Labels: labels})
			labels = []impl.Label{bare("d"), recovery("e", body...)}
			asCompiled(t, impl.Grammar{Rules: []impl.Rule{rule("s", throw(0)), rule("t", empty)}, Labels: labels})
		}
	})
	if count < 1000 {
		t.Errorf("only %d bodies", count)
	}
}

// Promise 8: the instructions of grammars by chance, and of grammars as great
// as the limits allow.
func TestPromise8Grammars(t *testing.T) {
	chance := rand.New(rand.NewSource(20))
	for i := range 2000 {
		asCompiled(t, chanceGrammar(chance, 1+i%40))
		asCompiled(t, thinGrammar(chance, 1+i%9, i%7))
	}
	for _, c := range goodChanges {
		asCompiled(t, changed(c))
	}
	asCompiled(t, thinGrammar(chance, impl.MaxRules, impl.MaxLabels))
	for _, order := range orders() {
		asCompiled(t, chain(order, empty))
	}
	half := impl.MaxOps / 2
	for _, body := range [][]impl.Op{
		ops(times(1, lit('a')), times(impl.MaxOps-1, star)),
		ops(times(1, lit('a')), times(impl.MaxOps-1, not)),
		ops(times(1, ref(0)), times(half-1, lit('a'), seq)),
		ops(times(half, lit('a')), times(half-1, seq)),
		ops(times(1, ref(0)), times(half-1, lit('a'), alt)),
		ops(times(half, lit('a')), times(half-1, alt)),
	} {
		asCompiled(t, impl.Grammar{Rules: []impl.Rule{rule("s", body...)}})
	}
}

// notCompiled fails unless the grammar is refused.
func notCompiled(t *testing.T, what string, g impl.Grammar) {
	t.Helper()
	if prog, code := impl.Compile(g); code != impl.CodeBad || len(prog) != 0 {
		t.Errorf("%s: code %d, %s", what, code, listing(prog))
	}
}

func TestCompileNotValid(t *testing.T) {
	for _, c := range faults {
		notCompiled(t, c.what, changed(c))
	}
	for _, n := range append([]int{-1, 8, 255, 256, impl.MaxRules, impl.MaxLabels}, far...) {
		for _, op := range []impl.Op{{Kind: n}, {Arg: n}, set(n, n+1, 3), set(9, n, 0), set(n), ref(n), throw(n), {Kind: impl.OpStar, Arg: n}, {Kind: n, Arg: n, Set: []int{n}}} {
			notCompiled(t, "far", impl.Grammar{Rules: []impl.Rule{rule("s", op)}})
			notCompiled(t, "far", impl.Grammar{Rules: []impl.Rule{rule("s", empty, empty, op)}})
			notCompiled(t, "far", impl.Grammar{Rules: []impl.Rule{rule("s", empty)}, Labels: []impl.Label{recovery("e", op)}})
		}
	}
	for _, n := range []int{impl.MaxRules + 1, 1000, 100000} {
		notCompiled(t, "too many rules", manyRules(n))
		notCompiled(t, "too many labels", manyLabels(n))
		notCompiled(t, "too many rules without anything", impl.Grammar{Rules: make([]impl.Rule, n)})
		notCompiled(t, "too many labels without anything", impl.Grammar{Rules: []impl.Rule{rule("s", empty)}, Labels: make([]impl.Label, n)})
	}
}

// Grammars wrong by chance: refused exactly if they are not valid.
func TestCompileAnyGrammar(t *testing.T) {
	chance := rand.New(rand.NewSource(21))
	numbers := append([]int{-1, 0, 1, 2, 3, 4, 5, 6, 7, 8, 255, 256}, far...)
	valid := 0
	for range 10000 {
		g := chanceGrammar(chance, 6)
		all := nodeBodies(g)
		body := all[chance.Intn(len(g.Rules))]
		n := numbers[chance.Intn(len(numbers))]
		switch op := &body[chance.Intn(len(body))]; chance.Intn(3) {
		case 0:
			op.Kind = n
		case 1:
			op.Arg = n
		case 2:
			op.Set = append(op.Set, n)
		}
		if impl.ValidGrammar(g) {
			valid++
			asCompiled(t, g)
		} else {
			notCompiled(t, show(g), g)
		}
	}
	if valid < 100 || valid > 9900 {
		t.Errorf("%d valid grammars: the test looks at one side only", valid)
	}
}

// setsOf answers the memory of a program's lists.
func setsOf(what string, prog []impl.Ins) []memoryOf {
	all := []memoryOf{memory(what, prog)}
	for _, ins := range prog {
		all = append(all, memory(what+"'s set", ins.Set))
	}
	return all
}

func TestCompileMemory(t *testing.T) {
	one := lit('a')
	thrice := impl.Grammar{Rules: []impl.Rule{rule("s", one, one, seq), rule("t", one)}}
	apart(t, append(setsOf("program", compiled(t, thrice)), memory("argument", one.Set)))

	chance := rand.New(rand.NewSource(22))
	grammars := []impl.Grammar{sample(), manyOps(3, 4, 5), changed(faults[len(faults)-1]), read(t, `s = "aaa" . . [] [^a] s ; ^e = "aa" ;`)}
	for range 100 {
		grammars = append(grammars, chanceGrammar(chance, 20), thinGrammar(chance, 5, 3))
	}
	for _, c := range grammars {
		g, whole := withRoom(c)
		before := roomShown(whole)
		prog, code := impl.Compile(g)
		again, _ := impl.Compile(g)
		apart(t, slices.Concat(memories("argument", g), setsOf("program", prog), setsOf("program again", again)))
		told := listing(again)
		for i := range prog[:cap(prog)] {
			ins := &prog[:cap(prog)][i]
			for j := range ins.Set[:cap(ins.Set)] {
				ins.Set[:cap(ins.Set)][j] = -1
			}
			*ins = impl.Ins{Kind: -1}
		}
		if got := roomShown(whole); got != before {
			t.Fatalf("an argument is changed: %s, it was %s", got, before)
		}
		third, codeThird := impl.Compile(g)
		if listing(again) != told || listing(third) != told || code != codeThird {
			t.Fatalf("%s: the answers are not the same every time", show(g))
		}
	}
}
