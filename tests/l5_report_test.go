package tests

import (
	"bytes"
	"fmt"
	"math"
	"math/rand"
	"slices"
	"strings"
	"testing"

	"loop.example/s0055/impl"
)

// told tells a report whole; nil and empty lists are told alike.
func told(r impl.Report) string {
	return fmt.Sprintf("code %d at %d, label %d, far %d, expect %v, throws %d, errors %d, nodes %v, text %q",
		r.Code, r.At, r.Label, r.Far, r.Expect, r.Throws, r.Errors, r.Nodes, r.Text)
}

// wantReport fails unless Parse has this report.
func wantReport(t *testing.T, grammar, input string, fuel, stack int, want impl.Report) {
	t.Helper()
	if got := impl.Parse([]byte(grammar), []byte(input), fuel, stack); told(got) != told(want) {
		t.Fatalf("%.300s on %.60q with fuel %d and stack %d: %.900s, want %.900s", grammar, input, fuel, stack, told(got), told(want))
	}
}

// renderedByDocument is Render with the places that the tests find themselves.
func renderedByDocument(input string, off int, message string) string {
	p := placesOf([]byte(input))[off]
	line := strings.Split(input, "\n")[p.line-1]
	return fmt.Sprintf("%d:%d: %s\n%s\n%s^\n", p.line, p.col, message, line, strings.Repeat(" ", p.col-1))
}

// reportOf answers the report of an outcome of the grammar's run.
func reportOf(g impl.Grammar, input string, o impl.Outcome) impl.Report {
	if o.Code == impl.CodeExhausted {
		return impl.Report{Code: o.Code}
	}
	r := impl.Report{Code: o.Code, Far: o.Far, Expect: o.Expect, Throws: o.Throws}
	text := ""
	switch o.Code {
	case impl.CodeOK:
		r.At = o.Pos
		r.Nodes, _ = treeByDocument(o.Events)
		for _, n := range r.Nodes {
			if n.Kind == impl.EvError && r.Errors < 20 {
				text += renderedByDocument(input, n.From, string(g.Labels[n.Arg].Name))
			}
			r.Errors += n.Kind // a rule's is 0, an error's 1
		}
	case impl.CodeFail:
		r.At = o.Far
		text = renderedByDocument(input, o.Far, "expected "+setText(o.Expect))
	case impl.CodeLabel:
		r.At, r.Label = o.Pos, o.Label
		text = renderedByDocument(input, o.Pos, string(g.Labels[o.Label].Name))
	}
	r.Text = []byte(text)
	return r
}

// reportByDocument goes through the points of the document in their order,
// with the tests' own check, compiler, machine and tree.
func reportByDocument(grammar, input string, fuel, stack int) impl.Report {
	if fuel < 0 || fuel > 50000 || stack < 0 || stack > 1000 {
		return impl.Report{Code: impl.CodeBad}
	}
	g, code, at := impl.ParseGrammar([]byte(grammar))
	if code != impl.CodeOK {
		return impl.Report{Code: code, At: at}
	}
	if code, node := checkByDocument(g); code != impl.CodeOK {
		return impl.Report{Code: code, At: node}
	}
	if len(input) > 4000 {
		return impl.Report{Code: impl.CodeLimit, At: 4000}
	}
	return reportOf(g, input, runByDocument(compiledByDocument(g), input, fuel, stack))
}

func TestParseOfTheDocument(t *testing.T) {
	const grammar = `s = "a" ("b" / ^mid) "c" ; ^mid = !"c" . ;`
	wantReport(t, grammar, "abc", 1000, 100, impl.Report{At: 3, Nodes: []impl.Node{ruleNode(0, 0, 3, -1)}})
	wantReport(t, grammar, "axc", 1000, 100, impl.Report{At: 3, Throws: 1, Errors: 1, Far: 1, Expect: []int{98, 98},
		Nodes: []impl.Node{ruleNode(0, 0, 3, -1), errorNode(0, 1, 2, 0)}, Text: []byte("1:2: mid\naxc\n ^\n")})
}

// What a report holds for each code of a run, and that all else is zero.
func TestParseCodes(t *testing.T) {
	for _, c := range []struct {
		grammar, input string
		want           impl.Report
	}{
		{`s = "a"* ;`, "aab", impl.Report{At: 2, Far: 2, Expect: []int{'a', 'a'}, Nodes: []impl.Node{ruleNode(0, 0, 2, -1)}}},
		{`s = "" ;`, "", impl.Report{Nodes: []impl.Node{ruleNode(0, 0, 0, -1)}}},
		// Far may lie behind what is matched, and a throw may be taken back.
		{`s = "abc" / "a" ;`, "abd", impl.Report{At: 1, Far: 2, Expect: []int{'c', 'c'}, Nodes: []impl.Node{ruleNode(0, 0, 1, -1)}}},
		{`s = ^e "b" / "a" ; ^e = "a" ;`, "ac", impl.Report{At: 1, Far: 1, Expect: []int{'b', 'b'}, Throws: 1, Nodes: []impl.Node{ruleNode(0, 0, 1, -1)}}},
		{`s = t t ; t = "a" / ^f ; u = ^e ; ^f = . ;`, "x\ny", impl.Report{At: 2, Far: 1, Expect: []int{'a', 'a'}, Throws: 2, Errors: 2,
			Nodes: []impl.Node{ruleNode(0, 0, 2, -1), ruleNode(1, 0, 1, 0), errorNode(1, 0, 1, 1), ruleNode(1, 1, 2, 0), errorNode(1, 1, 2, 3)},
			Text:  []byte("1:1: f\nx\n^\n1:2: f\nx\n ^\n")}},

		{`s = "a" ;`, "b", impl.Report{Code: impl.CodeFail, Expect: []int{'a', 'a'}, Text: []byte("1:1: expected \"a\"\nb\n^\n")}},
		{`s = "a\n" ("b" / ^e) ; ^e = "c" ;`, "a\nd\ne", impl.Report{Code: impl.CodeFail, At: 2, Far: 2, Expect: []int{'b', 'c'}, Throws: 1, Text: []byte("2:1: expected [bc]\nd\n^\n")}},
		{`s = "a\n" ;`, "a", impl.Report{Code: impl.CodeFail, At: 1, Far: 1, Expect: []int{10, 10}, Text: []byte("1:2: expected \"\\n\"\na\n ^\n")}},
		// The errors of a match that is taken back are not told.
		{`s = (^e / "b") "c" ; ^e = "a" ;`, "ad", impl.Report{Code: impl.CodeFail, At: 1, Far: 1, Expect: []int{'c', 'c'}, Throws: 1, Text: []byte("1:2: expected \"c\"\nad\n ^\n")}},

		{`s = "a" ^e ;`, "ab", impl.Report{Code: impl.CodeLabel, At: 1, Throws: 1, Text: []byte("1:2: e\nab\n ^\n")}},
		{`s = . . ("c" / ^long_Name9) / ^a ; ^a = ^b ;`, "é\n", impl.Report{Code: impl.CodeLabel, At: 2, Label: 2, Far: 2, Expect: []int{'c', 'c'}, Throws: 1, Text: []byte("1:2: long_Name9\né\n ^\n")}},
		{`s = "a" ("b" / ^e) ; ^e = "abc" / "\n" ^f ;`, "a\nb", impl.Report{Code: impl.CodeLabel, At: 2, Label: 1, Far: 1, Expect: []int{'a', 'b'}, Throws: 2, Text: []byte("2:1: f\nb\n^\n")}},
		// Where it is thrown, not where the farthest failure was.
		{`s = "abc" / ^e ;`, "abd", impl.Report{Code: impl.CodeLabel, Far: 2, Expect: []int{'c', 'c'}, Throws: 1, Text: []byte("1:1: e\nabd\n^\n")}},
	} {
		wantReport(t, c.grammar, c.input, impl.MaxFuel, impl.MaxStack, c.want)
		if got := reportByDocument(c.grammar, c.input, impl.MaxFuel, impl.MaxStack); told(got) != told(c.want) {
			t.Errorf("%s on %q: the tests' own report is %s", c.grammar, c.input, told(got))
		}
		wantReport(t, c.grammar, c.input, 2, impl.MaxStack, impl.Report{Code: impl.CodeExhausted})
		wantReport(t, c.grammar, c.input, impl.MaxFuel, 0, impl.Report{Code: impl.CodeExhausted})
	}
}

// outsideOf are numbers on both sides of the bounds 0 to most.
func outsideOf(most int) []int {
	return []int{math.MinInt, -most, -2, -1, most + 1, most + 2, 1 << 32, math.MaxInt}
}

// Point 1: fuel and stack outside their bounds, on both sides and each alone;
// and at their bounds.
func TestParseBounds(t *testing.T) {
	const grammar = `s = . ;`
	matches := impl.Report{At: 1, Nodes: []impl.Node{ruleNode(0, 0, 1, -1)}}
	for _, fuel := range outsideOf(impl.MaxFuel) {
		wantReport(t, grammar, "a", fuel, 10, impl.Report{Code: impl.CodeBad})
	}
	for _, stack := range outsideOf(impl.MaxStack) {
		wantReport(t, grammar, "a", 10, stack, impl.Report{Code: impl.CodeBad})
		for _, fuel := range outsideOf(impl.MaxFuel) {
			wantReport(t, grammar, "a", fuel, stack, impl.Report{Code: impl.CodeBad})
		}
	}
	wantReport(t, grammar, "a", impl.MaxFuel, 10, matches)
	wantReport(t, grammar, "a", 10, impl.MaxStack, matches)
	wantReport(t, grammar, "a", impl.MaxFuel, impl.MaxStack, matches)
	wantReport(t, grammar, "a", 0, 10, impl.Report{Code: impl.CodeExhausted})
	wantReport(t, grammar, "a", 10, 0, impl.Report{Code: impl.CodeExhausted})
	wantReport(t, grammar, "a", 0, 0, impl.Report{Code: impl.CodeExhausted})
	// What is out of bounds for the one is within them for the other.
	wantReport(t, grammar, "a", impl.MaxStack+1, 10, matches)
}

// Point 2: every fault of a grammar text, told with its offset.
func TestParseGrammarFaults(t *testing.T) {
	for _, c := range []struct {
		grammar  string
		code, at int
	}{
		{"s = . ;" + strings.Repeat(" ", impl.MaxText-6), impl.CodeLimit, 0},
		{"s = (", impl.CodeSyntax, 5},
		{"s = . ; t = [z-a] ;", impl.CodeSyntax, 12},
		{"%", impl.CodeSyntax, 0},
		{"s = . ; t = . ; s = . ;", impl.CodeName, 16},
		{"s = . ; ^e = . ; ^e = . ;", impl.CodeName, 18},
		{"s = . t ;", impl.CodeName, 6},
		{"", impl.CodeName, 0},
		{"^e = . ;\n", impl.CodeName, 9},
		{manyNamed(impl.MaxRules+1, "%s=;"), impl.CodeLimit, 0},
		{"s=;" + manyNamed(impl.MaxLabels+1, "^%s=;"), impl.CodeLimit, 0},
		{strings.Repeat("n", impl.MaxName+1) + "=;", impl.CodeLimit, 0},
	} {
		want := impl.Report{Code: c.code, At: c.at}
		wantReport(t, c.grammar, "a", 100, 10, want)
		if got := reportByDocument(c.grammar, "a", 100, 10); told(got) != told(want) {
			t.Errorf("%.60q: %s", c.grammar, told(got))
		}
	}
	wantReport(t, "s = . ;"+strings.Repeat(" ", impl.MaxText-7), "a", 100, 10, impl.Report{At: 1, Nodes: []impl.Node{ruleNode(0, 0, 1, -1)}})
	most := manyNamed(impl.MaxRules, "%s=;") + manyNamed(impl.MaxLabels, "^%s=;")
	wantReport(t, most, "a", 100, 10, impl.Report{Nodes: []impl.Node{ruleNode(0, 0, 0, -1)}})
}

// Point 3: what Check finds, told with its node, in rules that the run would
// not reach and in labels too.
func TestParseCheckFaults(t *testing.T) {
	for _, c := range []struct {
		grammar  string
		code, at int
	}{
		{`s = s ;`, impl.CodeLeft, 0},
		{`s = . ; t = "a" / t ;`, impl.CodeLeft, 1},
		{`s = . ; t = "a" ^e ; ^d = . ; ^e = ^e ;`, impl.CodeLeft, 3},
		{`s = ""* ;`, impl.CodeLoop, 0},
		{`s = . ; t = . ; u = (!.)* ;`, impl.CodeLoop, 2},
		{`s = . ; ^e = ("a"?)* ;`, impl.CodeLoop, 1},
		{`s = ""* ; t = "" t ;`, impl.CodeLeft, 1},
	} {
		wantReport(t, c.grammar, "a", 100, 10, impl.Report{Code: c.code, At: c.at})
		wantReport(t, c.grammar, "a", 0, 0, impl.Report{Code: c.code, At: c.at})
	}
}

// Point 4: an input of MaxInput bytes and of one more, and much more.
func TestParseLongInputs(t *testing.T) {
	most := strings.Repeat("a", impl.MaxInput)
	all := impl.Report{At: impl.MaxInput, Far: impl.MaxInput, Expect: []int{'a', 'a'}, Nodes: []impl.Node{ruleNode(0, 0, impl.MaxInput, -1)}}
	wantReport(t, `s = "a"* ;`, most, impl.MaxFuel, 10, all)
	tooLong := impl.Report{Code: impl.CodeLimit, At: impl.MaxInput}
	for _, size := range []int{1, 2, impl.MaxInput, 1 << 20} {
		wantReport(t, `s = "a"* ;`, most+strings.Repeat("b", size), impl.MaxFuel, 10, tooLong)
		wantReport(t, `s = "b" ;`, most+strings.Repeat("b", size), 0, 0, tooLong)
	}
	// A failure and a label at the end of the greatest input.
	line := most + "^\n"
	wantReport(t, `s = "a"* "b" ;`, most, impl.MaxFuel, 10, impl.Report{Code: impl.CodeFail, At: impl.MaxInput, Far: impl.MaxInput, Expect: []int{'a', 'b'},
		Text: []byte("1:4001: expected [ab]\n" + most + "\n" + strings.Repeat(" ", impl.MaxInput) + "^\n")})
	wantReport(t, `s = .* ^e ;`, strings.Repeat("\n", impl.MaxInput), impl.MaxFuel, 10, impl.Report{Code: impl.CodeLabel, At: impl.MaxInput, Far: impl.MaxInput, Expect: []int{0, 255}, Throws: 1,
		Text: []byte("4001:1: e\n\n^\n")})
	wantReport(t, `s = "a" . ^e ;`, line[2:], impl.MaxFuel, 10, impl.Report{Code: impl.CodeLabel, At: 2, Throws: 1,
		Text: []byte("1:3: e\n" + line[2:len(line)-1] + "\n  ^\n")})
}

// Every set of faults of the five points at once: the earliest is told.
func TestParseOrderOfFaults(t *testing.T) {
	// With a fault of point 2, the grammar's other rules have one of point 3
	// or none.
	grammars := [2][2]string{{`s = .* ;`, `s = .* ; t = t ;`}, {`s = .* ; t = u ;`, `s = .* ; t = t ; v = u ;`}}
	namesAt := [2]int{13, 21}
	inputs := [2]string{"aa", strings.Repeat("a", impl.MaxInput+1)}
	for faults := range 64 {
		fault := func(i int) int { return faults >> i & 1 }
		fuel, stack := 100, 10
		if fault(4) == 1 {
			fuel = 4
		}
		if fault(0) == 1 {
			fuel = impl.MaxFuel + 1
		}
		if fault(5) == 1 {
			stack = -1
		}
		want := impl.Report{At: 2, Far: 2, Expect: []int{0, 255}, Nodes: []impl.Node{ruleNode(0, 0, 2, -1)}}
		switch {
		case fault(0) == 1 || fault(5) == 1:
			want = impl.Report{Code: impl.CodeBad}
		case fault(1) == 1:
			want = impl.Report{Code: impl.CodeName, At: namesAt[fault(2)]}
		case fault(2) == 1:
			want = impl.Report{Code: impl.CodeLeft, At: 1}
		case fault(3) == 1:
			want = impl.Report{Code: impl.CodeLimit, At: impl.MaxInput}
		case fault(4) == 1:
			want = impl.Report{Code: impl.CodeExhausted}
		}
		wantReport(t, grammars[fault(1)][fault(2)], inputs[fault(3)], fuel, stack, want)
	}
	// A text that is too long stands before an input that is.
	wantReport(t, strings.Repeat(" ", impl.MaxText+1), inputs[1], 100, 10, impl.Report{Code: impl.CodeLimit})
	wantReport(t, `s = ""* ;`, inputs[1], 100, 10, impl.Report{Code: impl.CodeLoop})
}

// What is expected is written as an OpSet is printed.
func TestParseExpected(t *testing.T) {
	for _, c := range []struct{ grammar, message string }{
		{`s = [] ;`, `[]`},
		{`s = !"" ;`, `[]`},
		{`s = !"a" ;`, `[]`},
		{`s = "b" ;`, `"b"`},
		{`s = "b" / "d" ;`, `[bd]`},
		{`s = "b" / "c" ;`, `[bc]`},
		{`s = "d" / [b-c] ;`, `[b-d]`},
		{`s = [b-e] / "d" / [g-h] / "z" / [0-9] ;`, `[0-9b-eghz]`},
		{`s = [^a] ;`, "[\\x00-`b-\\xff]"},
		{`s = "\"" / "\\" / [\[\]] ;`, `[\"\[-\]]`},
		{`s = "\n" ;`, `"\n"`},
		{`s = "\t" / "\r" / "^" / "-" ;`, `[\t\r\-\^]`},
		{`s = "\n" / "\t" / "\r" ;`, `[\t\n\r]`},
		{`s = "\x00" ;`, `"\x00"`},
		{`s = "\xC3\xA9" ;`, `"\xc3"`},
		{`s = [\x7f-\xff] / "~" / " " ;`, `[ ~-\xff]`},
	} {
		r := impl.Parse([]byte(c.grammar), []byte("a"), 1000, 100)
		if want := "1:1: expected " + c.message + "\na\n^\n"; r.Code != impl.CodeFail || string(r.Text) != want {
			t.Errorf("%s: %s, want %q", c.grammar, told(r), want)
		}
	}
	// At the end of the input, where any byte may be looked for.
	r := impl.Parse([]byte(`s = . ;`), nil, 1000, 100)
	if r.Code != impl.CodeFail || string(r.Text) != "1:1: expected .\n\n^\n" {
		t.Errorf("any byte: %s", told(r))
	}
	for b := range 256 {
		r := impl.Parse(fmt.Appendf(nil, "s = [\\x%02x] ;", b), nil, 1000, 100)
		if want := "1:1: expected \"" + byteText(b) + "\"\n\n^\n"; r.Code != impl.CodeFail || string(r.Text) != want {
			t.Errorf("byte %d: %s, want %q", b, told(r), want)
		}
	}
}

// Any bytes as a grammar, any input, any fuel and stack: Parse answers what
// the document says.
func TestParseAnything(t *testing.T) {
	chance := rand.New(rand.NewSource(54))
	codes := map[int]int{}
	amounts := append([]int{0, 1, 7, 1000, 1001, 50000, 50001}, far...)
	for i := range 6000 {
		grammar := []byte(grammarText(livelyGrammar(chance)))
		switch i % 4 {
		case 0:
			grammar = []byte(grammarText(leanGrammar(chance)))
		case 1:
			grammar[chance.Intn(len(grammar))] = byte(chance.Intn(256))
		case 2:
			grammar = grammar[:chance.Intn(len(grammar))]
		}
		if i%50 == 0 {
			chance.Read(grammar)
		}
		fuel, stack := chance.Intn(500), chance.Intn(30)
		if i%10 == 0 {
			fuel, stack = amounts[chance.Intn(len(amounts))], amounts[chance.Intn(len(amounts))]
		}
		input := livelyInput(chance, 20)
		want := reportByDocument(string(grammar), input, fuel, stack)
		wantReport(t, string(grammar), input, fuel, stack, want)
		codes[want.Code]++
	}
	wantReport(t, "s=;", "", 100, 10, impl.Report{Nodes: []impl.Node{ruleNode(0, 0, 0, -1)}})
	if r := impl.Parse(nil, nil, 100, 10); told(r) != told(impl.Report{Code: impl.CodeName}) {
		t.Errorf("nothing at all: %s", told(r))
	}
	for code := impl.CodeOK; code <= impl.CodeLoop; code++ {
		if codes[code] < 20 && code != impl.CodeLimit {
			t.Errorf("codes %v: the test looks at some sides only", codes)
		}
	}
}

// Grammars whose runs would take very long or very much end in time.
func TestParseHardWork(t *testing.T) {
	most := strings.Repeat("a", impl.MaxInput)
	for what, c := range map[string]struct {
		grammar string
		input   string
		code    int
	}{
		"twice as much at each byte": {`s = "a" s "b" / "a" s "c" / "" ;`, most[:40], impl.CodeExhausted},
		"too deep":                   {`s = "a" s / "" ;`, most, impl.CodeExhausted},
		"nots in nots":               {"s = " + strings.Repeat("!", 1999) + ". ;", most, impl.CodeExhausted},
		"parentheses":                {"s = " + strings.Repeat("(", 1990) + "." + strings.Repeat(")", 1990) + " ;", most, impl.CodeOK},
		"a throw at each byte":       {`s = ("b" / ^e)* ; ^e = . ;`, most, impl.CodeOK},
		"a long way back":            {`s = "a"* "b" / "a"* "c" / "a"* "d" ;`, most, impl.CodeFail},
	} {
		r := impl.Parse([]byte(c.grammar), []byte(c.input), impl.MaxFuel, impl.MaxStack)
		if r.Code != c.code {
			t.Errorf("%s: %.200s", what, told(r))
		}
	}
}

// No argument is changed, no list of an answer shares memory with an argument,
// with another list or with another answer, and what lies behind the arguments
// plays no part.
func TestParseMemory(t *testing.T) {
	chance := rand.New(rand.NewSource(55))
	codes := map[int]int{}
	grammars := []string{`s = ("a" / ^e)* ; ^e = "b" ;`, `s = ("a" / "b" / ^e)* "c" ; ^e = . ;`, `s = "a"* ^label ;`, `s = s ;`, `s = `, ``}
	for i := range 600 {
		grammar := grammars[i%len(grammars)]
		if i%2 == 0 {
			grammar = grammarText(livelyGrammar(chance))
		}
		text, textWhole := roomy(grammar)
		input, inputWhole := roomy(livelyInput(chance, 12))
		textBefore, inputBefore := bytes.Clone(textWhole), bytes.Clone(inputWhole)
		one := impl.Parse(text, input, 1000, 100)
		two := impl.Parse(text, input, 1000, 100)
		codes[one.Code]++
		apart(t, []memoryOf{memory("grammar", text), memory("input", input),
			memory("expect", one.Expect), memory("nodes", one.Nodes), memory("text", one.Text),
			memory("expect again", two.Expect), memory("nodes again", two.Nodes), memory("text again", two.Text)})
		before := told(two)
		spoil(one)
		if !bytes.Equal(textWhole, textBefore) || !bytes.Equal(inputWhole, inputBefore) {
			t.Fatalf("%s on %q: an argument is changed", textBefore, inputBefore)
		}
		third := impl.Parse([]byte(grammar), slices.Clip(bytes.Clone(input)), 1000, 100)
		clear(textWhole)
		clear(inputWhole)
		if told(two) != before || told(third) != before {
			t.Fatalf("%s on %q: the answers are not the same every time", grammar, inputBefore)
		}
	}
	for code := impl.CodeOK; code <= impl.CodeLabel; code++ {
		if codes[code] < 20 {
			t.Errorf("codes %v: the test looks at some sides only", codes)
		}
	}
}

// spoil writes into all memory of a report, to the end of its lists' room.
func spoil(r impl.Report) {
	for i := range r.Expect[:cap(r.Expect)] {
		r.Expect[:cap(r.Expect)][i] = -1
	}
	for i := range r.Nodes[:cap(r.Nodes)] {
		r.Nodes[:cap(r.Nodes)][i] = impl.Node{Kind: -1}
	}
	for i := range r.Text[:cap(r.Text)] {
		r.Text[:cap(r.Text)][i] = '!'
	}
}
