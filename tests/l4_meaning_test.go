package tests

import (
	"bytes"
	"fmt"
	"math/rand"
	"slices"
	"strings"
	"testing"

	"loop.example/s0055/impl"
)

// story tells events: a rule as its letter, a recovery as ^ and its number,
// each with where it begins, what is in it and where it ends.
func story(events []impl.Event) string {
	var out strings.Builder
	for _, e := range events {
		switch e.Kind {
		case impl.EvOpen:
			fmt.Fprintf(&out, "%c%d(", 's'+e.Arg, e.Pos)
		case impl.EvError:
			fmt.Fprintf(&out, "^%d@%d(", e.Arg, e.Pos)
		case impl.EvClose:
			fmt.Fprintf(&out, ")%d", e.Pos)
		}
		if e.Kind == impl.EvClose && e.Arg != 0 {
			fmt.Fprintf(&out, "?%d", e.Arg)
		}
	}
	return out.String()
}

// Runs of grammars: what is logged and cut, thrown, expected. The rules are
// named s, t, u, .. in this order.
func TestRunGrammars(t *testing.T) {
	for _, c := range []struct {
		grammar, input string
		code, pos      int
		label, throws  int
		far            int
		expect         string
		story          string
	}{
		// A failure cuts the log back; later events stand behind the rest.
		{`s = t u / t t ; t = "a" ; u = "b" ;`, "aa", impl.CodeOK, 2, 0, 0, 1, `"b"`, "s0(t0()1t1()2)2"},
		{`s = t u / u ; t = "a" ; u = "a" ;`, "ab", impl.CodeOK, 1, 0, 0, 1, `"a"`, "s0(u0()1)1"},
		{`s = (t u)* t ; t = "a" ; u = "b" ;`, "ababac", impl.CodeOK, 5, 0, 0, 5, `"b"`, "s0(t0()1u1()2t2()3u3()4t4()5)5"},
		{`s = (t / u)* v ; t = v "b" ; u = v "c" ; v = "a" ;`, "acaba", impl.CodeOK, 5, 0, 0, 5, `[bc]`,
			"s0(u0(v0()1)2t2(v2()3)4v4()5)5"},
		{`s = !t u ; t = u "b" ; u = "a" ;`, "aa", impl.CodeOK, 1, 0, 0, 0, `[]`, "s0(u0()1)1"},
		{`s = &t u ; t = u "b" ; u = "a" ;`, "ab", impl.CodeOK, 1, 0, 0, 0, `[]`, "s0(u0()1)1"},
		{`s = u !t / u u ; t = u "b" ; u = "a" ;`, "aab", impl.CodeOK, 2, 0, 0, 0, `[]`, "s0(u0()1u1()2)2"},
		{`s = t* ; t = u u ; u = "a" ;`, "aaa", impl.CodeOK, 2, 0, 0, 3, `"a"`, "s0(t0(u0()1u1()2)2)2"},

		// What a recovery logged is cut like all else.
		{`s = ^e "b" / "ac" ; ^e = "a" ;`, "ac", impl.CodeOK, 2, 0, 1, 1, `"b"`, "s0()2"},
		{`s = "x" / ^e "b" ; ^e = "a" ;`, "ab", impl.CodeOK, 2, 0, 1, 0, `"x"`, "s0(^0@0()1)2"},
		{`s = (t / ^f)* !. ; t = "a" ; ^f = . ;`, "axa", impl.CodeOK, 3, 0, 2, 3, `.`, "s0(t0()1^0@1()2t2()3)3"},
		{`s = (!. / (t / ^f) s) ; t = "a" ; ^f = . ;`, "axya", impl.CodeOK, 4, 0, 2, 2, `"a"`, "s0(t0()1s1(^0@1()2s2(^0@2()3s3(t3()4s4()4)4)4)4)4"},
		{`s = ^e ; t = "a" ; ^e = t ^f ; ^f = t ;`, "aa", impl.CodeOK, 2, 0, 2, 0, `[]`, "s0(^0@0(t0()1^1@1(t1()2)2)2)2"},
		{`s = (^e / t) ; t = . ; ^e = "b" ;`, "a", impl.CodeOK, 1, 0, 1, 0, `"b"`, "s0(t0()1)1"},

		// A throw without a recovery ends all.
		{`s = (t ^e / t) / t ; t = "a" ;`, "ab", impl.CodeLabel, 1, 0, 1, 0, `[]`, ""},
		{`s = ("b" / ^f)* ; t = ^e ;`, "bba", impl.CodeLabel, 2, 1, 1, 2, `"b"`, ""},
		{`s = ^e ; ^e = . ^f ;`, "ab", impl.CodeLabel, 1, 1, 2, 0, `[]`, ""},
		{`s = . . ("c" / ^e) ;`, "ab", impl.CodeLabel, 2, 0, 1, 2, `"c"`, ""},

		// Inside a not a throw is a failure: with and without a recovery, in
		// a called rule, under a choice, in an and.
		{`s = !^e . ;`, "a", impl.CodeOK, 1, 0, 0, 0, `[]`, "s0()1"},
		{`s = !^e . ; ^e = "a" ;`, "a", impl.CodeOK, 1, 0, 0, 0, `[]`, "s0()1"},
		{`s = !t . ; t = u ; u = ^e ; ^e = "" ;`, "a", impl.CodeOK, 1, 0, 0, 0, `[]`, "s0()1"},
		{`s = !(^e / "a") . ; ^e = "" ;`, "a", impl.CodeFail, 0, 0, 0, 0, `[]`, ""},
		{`s = &^e . ; ^e = "" ;`, "a", impl.CodeFail, 0, 0, 0, 0, `[]`, ""},
		{`s = !!(^e / "a") . ; ^e = "" ;`, "a", impl.CodeOK, 1, 0, 0, 0, `[]`, "s0()1"},
		{`s = !(!"a") ^e ; ^e = . ;`, "a", impl.CodeOK, 1, 0, 1, 0, `[]`, "s0(^0@0()1)1"},
		{`s = !"b" ^e ;`, "a", impl.CodeLabel, 0, 0, 1, 0, `[]`, ""},
		{`s = !(t ^e) ^f ; t = . ; ^f = t ;`, "a", impl.CodeOK, 1, 0, 1, 0, `[]`, "s0(^1@0(t0()1)1)1"},

		// A not inside a recovery, and a throw in it.
		{`s = ^e "a" ; ^e = !^f ;`, "a", impl.CodeOK, 1, 0, 1, 0, `[]`, "s0(^0@0()0)1"},
		{`s = ^e "a" ; ^e = !(. ^e) ;`, "a", impl.CodeOK, 1, 0, 1, 0, `[]`, "s0(^0@0()0)1"},
		{`s = ^e "a" ; ^e = !(^f / "a") ; ^f = "" ;`, "a", impl.CodeFail, 0, 0, 1, 0, `[]`, ""},
		{`s = ^e ; ^e = !^f ^f ;`, "a", impl.CodeLabel, 0, 1, 2, 0, `[]`, ""},
		{`s = !(^e "b") "a" ; ^e = "a" ;`, "ab", impl.CodeOK, 1, 0, 0, 0, `[]`, "s0()1"},

		// The farthest failure: what is before it or inside a not is nothing.
		{`s = "ab" / "ac" / "x" ;`, "ad", impl.CodeFail, 0, 0, 0, 1, `[bc]`, ""},
		{`s = "abc" / "ad" / "abe" ;`, "abx", impl.CodeFail, 0, 0, 0, 2, `[ce]`, ""},
		{`s = "x" / "ab" / "y" ;`, "ac", impl.CodeFail, 0, 0, 0, 1, `"b"`, ""},
		{`s = "a" !("bc") "x" ;`, "abd", impl.CodeFail, 0, 0, 0, 1, `"x"`, ""},
		{`s = "a" &("bc") "x" ;`, "abd", impl.CodeFail, 0, 0, 0, 0, `[]`, ""},
		{`s = "a" [] ;`, "ab", impl.CodeFail, 0, 0, 0, 1, `[]`, ""},
		{`s = "b" / "a" [] ;`, "ab", impl.CodeFail, 0, 0, 0, 1, `[]`, ""},
		{`s = "a" / "b"* ;`, "bb", impl.CodeOK, 2, 0, 0, 2, `"b"`, "s0()2"},
		{`s = [a-c] / [d-f] / "h" ;`, "", impl.CodeFail, 0, 0, 0, 0, `[a-fh]`, ""},
		{`s = [^x] / "x" ;`, "", impl.CodeFail, 0, 0, 0, 0, `.`, ""},
		{`s = "a" ("b" / ^e) ; ^e = "c" ;`, "ad", impl.CodeFail, 0, 0, 1, 1, `[bc]`, ""},
		{`s = "" ;`, "a", impl.CodeOK, 0, 0, 0, 0, `[]`, "s0()0"},
	} {
		g := read(t, c.grammar)
		o := impl.Run(compiled(t, g), []byte(c.input), impl.MaxFuel, impl.MaxStack)
		expect := read(t, "s = "+c.expect+" ;").Rules[0].Body[0].Set
		if o.Code != c.code || o.Pos != c.pos || o.Label != c.label || o.Throws != c.throws || o.Far != c.far || !slices.Equal(o.Expect, expect) || story(o.Events) != c.story {
			t.Errorf("%s on %q: %s, %s", c.grammar, c.input, tell(o), story(o.Events))
		}
		want, _ := meant(g, c.input, 10000)
		want.Steps = o.Steps
		if tell(o) != tell(want) {
			t.Errorf("%s on %q: %s, it means %s", c.grammar, c.input, tell(o), tell(want))
		}
	}
}

// sense finds what the expressions of a grammar mean, without any program.
type sense struct {
	g       impl.Grammar
	input   string
	left    int // how much work may still be done
	outcome impl.Outcome
	expect  map[int]bool
	log     []impl.Event
}

// meant answers the outcome of the first rule, but for its steps; false if
// the work did not come to an end.
func meant(g impl.Grammar, input string, work int) (impl.Outcome, bool) {
	s := sense{g: g, input: input, left: work, expect: map[int]bool{}}
	how, to := s.node(impl.EvOpen, 0, g.Rules[0].Body, 0, false)
	o := s.outcome
	o.Expect = setOf(func(b int) bool { return s.expect[b] })
	switch {
	case how == matched:
		o.Pos, o.Events = to, s.log
	case how == failed:
		o.Code = impl.CodeFail
	}
	return o, s.left >= 0
}

func (s *sense) node(kind, arg int, body []impl.Op, at int, inNot bool) (int, int) {
	before := len(s.log)
	s.log = append(s.log, impl.Event{Kind: kind, Arg: arg, Pos: at})
	how, to := s.of(body, at, inNot)
	if how == matched {
		s.log = append(s.log, impl.Event{Kind: impl.EvClose, Pos: to})
	} else {
		s.log = s.log[:before]
	}
	return how, to
}

func (s *sense) of(body []impl.Op, at int, inNot bool) (int, int) {
	if s.left--; s.left < 0 {
		return ended, 0
	}
	before := len(s.log)
	last, operands := parts(body)
	switch last.Kind {
	case impl.OpSet:
		return s.take(last.Set, at, inNot)
	case impl.OpRef:
		return s.node(impl.EvOpen, last.Arg, s.g.Rules[last.Arg].Body, at, inNot)
	case impl.OpThrow:
		if inNot {
			return failed, 0
		}
		s.outcome.Throws++
		if l := s.g.Labels[last.Arg]; l.Has {
			return s.node(impl.EvError, last.Arg, l.Body, at, inNot)
		}
		s.outcome.Code, s.outcome.Label, s.outcome.Pos = impl.CodeLabel, last.Arg, at
		return ended, 0
	case impl.OpSeq:
		how, to := s.of(operands[0], at, inNot)
		if how == matched {
			how, to = s.of(operands[1], to, inNot)
		}
		if how == failed {
			s.log = s.log[:before]
		}
		return how, to
	case impl.OpAlt:
		if how, to := s.of(operands[0], at, inNot); how != failed {
			return how, to
		}
		return s.of(operands[1], at, inNot)
	case impl.OpStar:
		how, to := s.of(operands[0], at, inNot)
		for ; how == matched; how, to = s.of(operands[0], at, inNot) {
			at = to
		}
		if how == failed {
			return matched, at
		}
		return ended, 0
	case impl.OpNot:
		how, _ := s.of(operands[0], at, true)
		s.log = s.log[:before]
		if how == ended {
			return ended, 0
		}
		return matched + failed - how, at
	}
	return matched, at
}

func (s *sense) take(set []int, at int, inNot bool) (int, int) {
	in := func(b int) bool {
		return slices.ContainsFunc(pairsOf(set), func(p [2]int) bool { return p[0] <= b && b <= p[1] })
	}
	if at < len(s.input) && in(int(s.input[at])) {
		return matched, at + 1
	}
	if at > s.outcome.Far && !inNot {
		s.outcome.Far = at
		clear(s.expect)
	}
	for b := range 256 {
		if at == s.outcome.Far && !inNot && in(b) {
			s.expect[b] = true
		}
	}
	return failed, 0
}

// Promise 8: no run of a compiled grammar ends with CodeBad, whether Check
// passes it or not; and what a run answers is what the grammar means.
func TestPromise8Runs(t *testing.T) {
	chance := rand.New(rand.NewSource(26))
	codes, checks := map[int]int{}, map[int]int{}
	look := func(g impl.Grammar) {
		prog := compiled(t, g)
		check, _ := impl.Check(g)
		checks[check]++
		for _, input := range inputsOf {
			o := impl.Run(prog, []byte(input), 2000, 150)
			codes[o.Code]++
			if o.Code == impl.CodeBad {
				t.Fatalf("%s on %q: %s", grammarText(g), input, tell(o))
			}
			if want, whole := meant(g, input, 1000); whole && o.Code != impl.CodeExhausted {
				if want.Steps = o.Steps; tell(o) != tell(want) {
					t.Fatalf("%s on %q: %s, it means %s", grammarText(g), input, tell(o), tell(want))
				}
			} else if whole && check == impl.CodeOK {
				t.Fatalf("%s on %q: %s, it means %s", grammarText(g), input, tell(o), tell(want))
			}
			for _, less := range [][2]int{{0, 0}, {chance.Intn(30), chance.Intn(8)}, {chance.Intn(2000), chance.Intn(3)}} {
				if o := impl.Run(prog, []byte(input), less[0], less[1]); o.Code == impl.CodeBad {
					t.Fatalf("%s on %q with fuel %d and stack %d: %s", grammarText(g), input, less[0], less[1], tell(o))
				}
			}
		}
		if o := impl.Run(prog, []byte("ab"), impl.MaxFuel, impl.MaxStack-chance.Intn(2)*impl.MaxStack); o.Code == impl.CodeBad {
			t.Fatalf("%s with all fuel: %s", grammarText(g), tell(o))
		}
	}
	for i := range 1500 {
		look(leanGrammar(chance))
		if i%5 == 0 {
			look(chanceGrammar(chance, 10))
			look(thinGrammar(chance, 1+i%8, i%5))
		}
	}
	look(sample())
	look(thinGrammar(chance, impl.MaxRules, impl.MaxLabels))
	for _, code := range []int{impl.CodeOK, impl.CodeFail, impl.CodeLabel, impl.CodeExhausted} {
		if codes[code] < 500 {
			t.Errorf("codes %v: the test looks at some sides only", codes)
		}
	}
	for _, check := range []int{impl.CodeOK, impl.CodeLeft, impl.CodeLoop} {
		if checks[check] < 100 {
			t.Errorf("checks %v: the test looks at some sides only", checks)
		}
	}
}

// Promise 8: all small bodies, run to the end of fuel and stack.
func TestPromise8SmallRuns(t *testing.T) {
	bodies(4, []impl.Op{empty, lit('a'), ref(0), throw(0), throw(1), seq, alt, star, not}, func(body []impl.Op) {
		if rest, found := withoutLast(body); !found || len(rest) > 0 {
			return
		}
		labels := []impl.Label{bare("d"), recovery("e", throw(0), lit('a'), alt)}
		g := impl.Grammar{Rules: []impl.Rule{rule("s", body...)}, Labels: labels}
		prog := compiled(t, g)
		for _, input := range []string{"", "a", "aa"} {
			o := impl.Run(prog, []byte(input), 500, 100)
			if want, whole := meant(g, input, 500); o.Code != impl.CodeExhausted {
				if want.Steps = o.Steps; !whole || tell(o) != tell(want) {
					t.Fatalf("%s on %q: %s, it means %s", grammarText(g), input, tell(o), tell(want))
				}
			} else if whole {
				t.Fatalf("%s on %q: %s, it means %s", grammarText(g), input, tell(o), tell(want))
			}
		}
	})
}

// Promise 6 of the machine: a run that begins with a rule that is not marked
// takes a byte if it matches.
func TestPromise6Runs(t *testing.T) {
	chance := rand.New(rand.NewSource(27))
	took, stayed := 0, 0
	for range 3000 {
		g := leanGrammar(chance)
		prog := compiled(t, g)
		opens := []int{}
		for i, ins := range prog {
			if ins.Kind == impl.InsOpen {
				opens = append(opens, i)
			}
		}
		for i, marked := range impl.Nullable(g)[:len(g.Rules)] {
			prog[0].To = opens[i]
			input := inputsOf[chance.Intn(len(inputsOf))]
			o := impl.Run(prog, []byte(input), 1000, 100)
			switch {
			case o.Code == impl.CodeOK && o.Pos == 0 && !marked:
				t.Fatalf("%s: rule %d matches nothing of %q", grammarText(g), i, input)
			case o.Code == impl.CodeOK && o.Pos == 0:
				stayed++
			case o.Code == impl.CodeOK && !marked:
				took++
			}
		}
	}
	if took < 500 || stayed < 500 {
		t.Errorf("%d runs took a byte, %d did not: the test looks at one side only", took, stayed)
	}
}

// roomyProgram answers the program with all its lists in new memory that has
// room behind it, and the whole memory, to look at afterwards.
func roomyProgram(prog []impl.Ins) ([]impl.Ins, []impl.Ins) {
	whole := slices.Clone(prog)
	for i, ins := range whole {
		whole[i].Set = append(slices.Clone(ins.Set), 66, 66)[:len(ins.Set)]
	}
	whole = append(whole, iEnd, iEnd)
	return whole[:len(prog)], whole
}

func roomyListing(prog []impl.Ins) string {
	told := listing(prog)
	for _, ins := range prog {
		told += fmt.Sprint(ins.Set[:cap(ins.Set)])
	}
	return told
}

// No argument is changed, no answer shares memory with one or with another,
// and what lies behind the lists plays no part.
func TestRunMemory(t *testing.T) {
	chance := rand.New(rand.NewSource(28))
	codes := map[int]int{}
	progs := [][]impl.Ins{
		nil, {}, program(iTest('a', 'a')), program(iOpen(1), iOpen(2), iEnd), program(iTest('b', 'b', 'a')),
		program(iChoice(2), iTest(0, 9, 20, 30), iOpen(1), iEnd), compiled(t, read(t, `s = ("a" / ^e)* ; ^e = "b" ;`)),
	}
	for i := range 300 {
		progs = append(progs, compiled(t, leanGrammar(chance)), changedProgram(chance, compiled(t, leanGrammar(chance)), 2), chanceProgram(chance, 1+i%9))
	}
	for _, p := range progs {
		prog, whole := roomyProgram(p)
		input, inputWhole := roomy(inputsOf[chance.Intn(len(inputsOf))])
		before, inputBefore := roomyListing(whole), bytes.Clone(inputWhole)
		one := impl.Run(prog, input, 300, 40)
		two := impl.Run(prog, input, 300, 40)
		codes[one.Code]++
		apart(t, append(setsOf("program", prog), memory("input", input),
			memory("expect", one.Expect), memory("expect again", two.Expect), memory("events", one.Events), memory("events again", two.Events)))
		told := tell(two)
		for i := range one.Expect[:cap(one.Expect)] {
			one.Expect[:cap(one.Expect)][i] = -1
		}
		for i := range one.Events[:cap(one.Events)] {
			one.Events[:cap(one.Events)][i] = impl.Event{Kind: -1}
		}
		if roomyListing(whole) != before || !bytes.Equal(inputWhole, inputBefore) {
			t.Fatalf("an argument is changed: %s, it was %s", roomyListing(whole), before)
		}
		if third := impl.Run(p, bytes.Clone(input), 300, 40); tell(two) != told || tell(third) != told {
			t.Fatalf("%s on %q: the answers are not the same every time", listing(prog), input)
		}
	}
	for code := impl.CodeOK; code <= impl.CodeBad; code++ {
		if codes[code] < 20 {
			t.Errorf("codes %v: the test looks at some sides only", codes)
		}
	}
}

// Of an outcome only those fields are not zero that its code allows, and what
// is expected is a canonical set.
func TestRunAnswers(t *testing.T) {
	chance := rand.New(rand.NewSource(29))
	for i := range 6000 {
		prog := changedProgram(chance, compiled(t, leanGrammar(chance)), i%3)
		input := inputsOf[i%len(inputsOf)]
		o := impl.Run(prog, []byte(input), chance.Intn(300), chance.Intn(30))
		rest := o
		rest.Code, rest.Far, rest.Expect, rest.Steps, rest.Throws = 0, 0, nil, 0, 0
		right := canonicalByDocument(o.Expect) && o.Steps > 0 && o.Throws >= 0 && 0 <= o.Far && o.Far <= len(input)
		switch o.Code {
		case impl.CodeOK:
			right = right && 0 <= o.Pos && o.Pos <= len(input) && o.Label == 0
		case impl.CodeFail:
			right = right && tell(rest) == tell(impl.Outcome{})
		case impl.CodeLabel:
			right = right && 0 <= o.Pos && o.Pos <= len(input) && len(o.Events) == 0 && o.Throws > 0
		default:
			right = tell(o) == tell(bad) || tell(o) == tell(exhausted)
		}
		if !right {
			t.Fatalf("%s on %q: %s", listing(prog), input, tell(o))
		}
	}
}
