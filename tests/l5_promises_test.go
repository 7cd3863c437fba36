package tests

import (
	"bytes"
	"fmt"
	"math/rand"
	"slices"
	"strings"
	"testing"

	"loop.example/s0055/impl"
)

// needed answers the least fuel and the least stack with which a run comes to
// its end; false if none within the bounds does.
func needed(g impl.Grammar, input string) (fuel, stack int, ends bool) {
	prog := compiledByDocument(g)
	o := runByDocument(prog, input, impl.MaxFuel, impl.MaxStack)
	if o.Code == impl.CodeExhausted {
		return 0, 0, false
	}
	for runByDocument(prog, input, o.Steps, stack).Code == impl.CodeExhausted {
		stack++
	}
	return o.Steps, stack, true
}

// asMeant fails unless Parse answers exactly what the expressions mean with as
// much fuel and stack as is needed or more, and is exhausted with one less of
// either. It answers the report, or false if the run does not end in time.
func asMeant(t *testing.T, g impl.Grammar, input string) (impl.Report, bool) {
	t.Helper()
	o, whole := meant(g, input, 5000)
	fuel, stack, ends := needed(g, input)
	if !whole || !ends {
		return impl.Report{}, false
	}
	grammar, want := grammarText(g), reportOf(g, input, o)
	for _, more := range [][2]int{{fuel, stack}, {fuel + 1, stack}, {fuel, stack + 1}, {impl.MaxFuel, impl.MaxStack}} {
		wantReport(t, grammar, input, more[0], more[1], want)
	}
	for _, less := range [][2]int{{fuel - 1, stack}, {fuel, stack - 1}, {fuel - 1, impl.MaxStack}, {impl.MaxFuel, stack - 1}, {0, 0}} {
		wantReport(t, grammar, input, less[0], less[1], impl.Report{Code: impl.CodeExhausted})
	}
	return want, true
}

// Promise 12, of grammars by hand.
func TestPromise12(t *testing.T) {
	for _, c := range []struct {
		grammar string
		inputs  []string
		code    int
	}{
		{`s = "" ;`, []string{"", "a"}, impl.CodeOK},
		{`s = (t ",")* t !. ; t = [0-9] [0-9]* / ^num ; ^num = (!"," .)* ;`, []string{"1,22,x,,3", "", "é,\n,1"}, impl.CodeOK},
		{`s = st* ; st = n "=" e (";" / ^semi) ; e = p ("+" p)* ; p = n / "(" e (")" / ^close) / ^value ; n = [a-z] ; ^semi = (![;\n] .)* [;\n]? ; ^close = "" ; ^value = "" ;`,
			[]string{"a=b;", "a=(b+;c=+d;", "a=b c=d;\nd=e\n", "a=((((b;", ""}, impl.CodeOK},
		{`s = "a" s "b" / "c" ;`, []string{"c", "acb", "aaaacbbbb"}, impl.CodeOK},
		{`s = "a" s "b" / "c" ;`, []string{"", "acc", "aaaacbbb", "aaaa"}, impl.CodeFail},
		{`s = ("a" / "b\n")* !. ;`, []string{"aab", "ab\nac", "b\nb\nb\nx"}, impl.CodeFail},
		{`s = ("a" / ^e)* "d" ; ^e = "b" / "c" ;`, []string{"abcx", "x"}, impl.CodeFail},
		{`s = ("a" / "b" ^f / ^e)* ; ^e = "c" ;`, []string{"aab", "acb", "cccb"}, impl.CodeLabel},
		{`s = &("a" ^e) "b" / !(^e) ^e ;`, []string{"", "a", "b"}, impl.CodeLabel},
	} {
		for _, input := range c.inputs {
			r, ends := asMeant(t, read(t, c.grammar), input)
			if !ends || r.Code != c.code {
				t.Errorf("%s on %q: %s", c.grammar, input, told(r))
			}
		}
	}
	// It means much more than any fuel can reach.
	deep := read(t, `s = "a" s "b" / "a" s "c" / "" ;`)
	if _, _, ends := needed(deep, strings.Repeat("a", 30)); ends {
		t.Errorf("the run comes to its end")
	}
	wantReport(t, grammarText(deep), strings.Repeat("a", 30), impl.MaxFuel, impl.MaxStack, impl.Report{Code: impl.CodeExhausted})
}

// Promise 12, of grammars by chance.
func TestPromise12ByChance(t *testing.T) {
	chance := rand.New(rand.NewSource(56))
	codes, errors := map[int]int{}, 0
	for i := range 4000 {
		g := livelyGrammar(chance)
		if i%4 == 0 {
			g = leanGrammar(chance)
		}
		if code, _ := impl.Check(g); code != impl.CodeOK {
			continue
		}
		for range 3 {
			r, ends := asMeant(t, g, livelyInput(chance, 16))
			if ends {
				codes[r.Code]++
				errors += r.Errors
			}
		}
	}
	for _, code := range []int{impl.CodeOK, impl.CodeFail, impl.CodeLabel} {
		if codes[code] < 200 || errors < 200 {
			t.Errorf("codes %v, %d errors: the test looks at some sides only", codes, errors)
		}
	}
}

// heads are the first lines of a text's diagnostics, three lines each.
func heads(text []byte) []string {
	var out []string
	for i, line := range strings.Split(string(text), "\n") {
		if i%3 == 0 && line != "" {
			out = append(out, line)
		}
	}
	return out
}

// asDiagnosed fails unless a report with CodeOK has as many errors as it has
// error nodes, and the first MaxDiags of them are told with their places.
func asDiagnosed(t *testing.T, g impl.Grammar, input string, r impl.Report) {
	t.Helper()
	places := placesOf([]byte(input))
	var want []string
	text, errors := "", 0
	for _, n := range r.Nodes {
		if n.Kind != impl.EvError {
			continue
		}
		if errors++; errors <= 20 {
			name := string(g.Labels[n.Arg].Name)
			want = append(want, fmt.Sprintf("%d:%d: %s", places[n.From].line, places[n.From].col, name))
			text += renderedByDocument(input, n.From, name)
		}
	}
	if r.Code != impl.CodeOK || r.Errors != errors || !slices.Equal(heads(r.Text), want) || string(r.Text) != text {
		t.Fatalf("%s on %.60q: %.900s, want %d errors: %v", grammarText(g), input, told(r), errors, want)
	}
}

// Promise 13: so many errors, on one line and on a line each.
func TestPromise13Number(t *testing.T) {
	g := read(t, `s = ("a" / "\n" / ^wrong)* !. ; ^wrong = . ;`)
	for _, errors := range []int{0, 1, 2, impl.MaxDiags - 1, impl.MaxDiags, impl.MaxDiags + 1, impl.MaxDiags + 2, 3 * impl.MaxDiags} {
		for _, part := range []string{"x", "x\n", "ax", "\n\nax", "aa\nxa"} {
			input := strings.Repeat(part, errors) + "aa"
			r := impl.Parse([]byte(grammarText(g)), []byte(input), impl.MaxFuel, impl.MaxStack)
			if r.Errors != errors || r.Throws != errors+1 || len(r.Nodes) != 1+errors || len(heads(r.Text)) != min(errors, 20) {
				t.Errorf("%d times %q: %s", errors, part, told(r))
			}
			asDiagnosed(t, g, input, r)
		}
	}
	// As many as there can be.
	input := strings.Repeat("x", impl.MaxInput)
	most := impl.Parse([]byte(`s = ("a" / ^e)* ; ^e = . ;`), []byte(input), impl.MaxFuel, impl.MaxStack)
	if most.Errors != impl.MaxInput || len(heads(most.Text)) != impl.MaxDiags || heads(most.Text)[19] != "1:20: e" {
		t.Errorf("%d errors: %v", most.Errors, heads(most.Text))
	}
}

// Promise 13: the first of them are told, of whatever label and however they
// lie in each other; rules between them do not count.
func TestPromise13First(t *testing.T) {
	g := read(t, `s = t* ; t = u "," ; u = "a" / ^outer ; ^inner = . ; ^outer = ^inner (!"," .)* ;`)
	input := strings.Repeat("a,xyz,\n", 15)
	r := impl.Parse([]byte(grammarText(g)), []byte(input), impl.MaxFuel, impl.MaxStack)
	// Wrong are what stands behind the first comma of each of the 15 lines, and
	// a newline with the a behind it for all but the last: 29 outer errors with
	// an inner one in each. Behind the last newline there is no comma.
	if r.Code != impl.CodeOK || r.Errors != 58 || r.At != len(input)-1 {
		t.Fatalf("%s", told(r))
	}
	asDiagnosed(t, g, input, r)
	got := heads(r.Text)
	if len(got) != 20 || !slices.Equal(got[:6], []string{"1:3: outer", "1:3: inner", "1:7: outer", "1:7: inner", "2:3: outer", "2:3: inner"}) || got[19] != "5:7: inner" {
		t.Errorf("%v", got)
	}
}

// Promise 13: errors on several lines and behind characters of several bytes,
// cut ones and wrong ones.
func TestPromise13Places(t *testing.T) {
	g := read(t, `s = ([^ax\n] / "\n" / ^wrong)* ; ^wrong = "x" "a"* / "a" ;`)
	look := func(text []byte) {
		r := impl.Parse([]byte(grammarText(g)), text, impl.MaxFuel, impl.MaxStack)
		asDiagnosed(t, g, string(text), r)
	}
	shortTexts(4, look)
	for _, text := range mixed {
		for _, more := range []string{"", "x", "xa\nxaa", "éx€xa😀x\n\xc3x\xf0\x9fxa"} {
			look([]byte(text + more))
			look([]byte(more + text + more))
		}
	}
	r := impl.Parse([]byte(grammarText(g)), []byte("é€x\n\n😀\xffxx\n\xc3x"), impl.MaxFuel, impl.MaxStack)
	if got := heads(r.Text); !slices.Equal(got, []string{"1:3: wrong", "3:3: wrong", "3:4: wrong", "4:2: wrong"}) {
		t.Errorf("%v", got)
	}
	// An error behind all, over nothing.
	end := read(t, `s = .* ("!" / ^missing) ; ^missing = "" ;`)
	for _, text := range mixed {
		r := impl.Parse([]byte(grammarText(end)), []byte(text), impl.MaxFuel, impl.MaxStack)
		asDiagnosed(t, end, text, r)
		if r.Errors != 1 || r.Nodes[1] != errorNode(0, len(text), len(text), 0) {
			t.Errorf("%q: %s", text, told(r))
		}
	}
}

// Promise 13, of grammars by chance.
func TestPromise13ByChance(t *testing.T) {
	chance := rand.New(rand.NewSource(57))
	several, more := 0, 0
	for range 4000 {
		g, input := livelyGrammar(chance), livelyInput(chance, 80)
		r := impl.Parse([]byte(grammarText(g)), []byte(input), impl.MaxFuel, impl.MaxStack)
		if r.Code != impl.CodeOK {
			continue
		}
		asDiagnosed(t, g, input, r)
		if r.Errors > 1 {
			several++
		}
		if r.Errors > impl.MaxDiags {
			more++
		}
	}
	if several < 100 || more < 5 {
		t.Errorf("%d reports with several errors, %d with more than are told: the test looks at some sides only", several, more)
	}
}

// asErased fails unless a report without a throw is that of the erased grammar
// too, with this fuel and stack. It answers whether there was a report to look
// at.
func asErased(t *testing.T, g impl.Grammar, input string, fuel, stack int) bool {
	t.Helper()
	r := impl.Parse([]byte(grammarText(g)), []byte(input), fuel, stack)
	plain := impl.PrintGrammar(impl.Erase(g))
	if r.Code > impl.CodeFail || r.Throws > 0 || len(plain) > impl.MaxText {
		return false
	}
	if bytes.IndexByte(plain, '^') >= 0 {
		t.Fatalf("%s has labels", plain)
	}
	wantReport(t, string(plain), input, fuel, stack, r)
	return true
}

// Promise 14, of grammars by hand: a label is thrown inside a not, or there is
// one where the run does not come.
func TestPromise14(t *testing.T) {
	for _, c := range []struct {
		grammar string
		inputs  []string
		code    int
	}{
		{`s = ("a" / !("b" / ^e) .)* !. ; ^e = . ;`, []string{"aca", ""}, impl.CodeOK},
		{`s = ("a" / !("b" / ^e) .)* !. ; ^e = . ;`, []string{"acb", "b"}, impl.CodeFail},
		{`s = !^e "a" / ^e ;`, []string{"a", "ab"}, impl.CodeOK},
		{`s = &^e "a" / "b" ; ^e = "" ;`, []string{"b"}, impl.CodeOK},
		{`s = &^e "a" / "b" ; ^e = "" ;`, []string{"a", ""}, impl.CodeFail},
		{`s = t "b" / ^f ; t = "a" / ^e ;`, []string{"ab"}, impl.CodeOK},
		{`s = ("a" / "b" ("c" / ^e))* ("d" / "e") ; ^e = ^e2 ;`, []string{"aabcd", "e"}, impl.CodeOK},
		{`s = !t u ; t = u (v / ^e) ; u = "a" ; v = "b" ^f ;`, []string{"a", "ac", "abc"}, impl.CodeOK},
		{`s = !(t ^e) !(t (^f / "")) t ; t = "a" ;`, []string{"a", "b", ""}, impl.CodeFail},
	} {
		g := read(t, c.grammar)
		for _, input := range c.inputs {
			fuel, stack, _ := needed(g, input)
			for _, more := range [][2]int{{fuel, stack}, {fuel + 1, stack}, {fuel, stack + 1}, {impl.MaxFuel, impl.MaxStack}} {
				if !asErased(t, g, input, more[0], more[1]) {
					t.Errorf("%s on %q: not a report without a throw", c.grammar, input)
				}
			}
			if r := impl.Parse([]byte(c.grammar), []byte(input), fuel, stack); r.Code != c.code {
				t.Errorf("%s on %q: %s", c.grammar, input, told(r))
			}
		}
	}
}

// Promise 14, of grammars by chance.
func TestPromise14ByChance(t *testing.T) {
	chance := rand.New(rand.NewSource(58))
	looked := map[int]int{}
	for i := range 5000 {
		g, input := livelyGrammar(chance), livelyInput(chance, 12)
		if i%4 == 0 {
			g, input = leanGrammar(chance), inputsOf[chance.Intn(len(inputsOf))]
		}
		if code, _ := impl.Check(g); code != impl.CodeOK || len(g.Labels) == 0 {
			continue
		}
		fuel, stack, ends := needed(g, input)
		if ends && asErased(t, g, input, fuel, stack) && asErased(t, g, input, impl.MaxFuel, impl.MaxStack) {
			looked[impl.Parse([]byte(grammarText(g)), []byte(input), fuel, stack).Code]++
		}
		asErased(t, g, input, chance.Intn(100), chance.Intn(10))
	}
	if looked[impl.CodeOK] < 200 || looked[impl.CodeFail] < 200 {
		t.Errorf("codes %v: the test looks at one side only", looked)
	}
}

// renamed answers the grammar with other names: those of the rules in no
// order, those of the labels in the order in which they were.
func renamed(chance *rand.Rand, g impl.Grammar) impl.Grammar {
	fresh := func(n int) []string {
		names := map[string]bool{}
		for len(names) < n {
			name := []byte(numbered(1, 1+chance.Intn(4))[0])
			name[0] = "_AZaz"[chance.Intn(5)]
			name = append(name, fmt.Sprint(chance.Intn(50))...)
			names[string(name)] = true
		}
		sorted := []string{}
		for name := range names {
			sorted = append(sorted, name)
		}
		slices.Sort(sorted)
		return sorted
	}
	out := impl.Grammar{Rules: slices.Clone(g.Rules), Labels: slices.Clone(g.Labels)}
	rules, labels := fresh(len(g.Rules)), fresh(len(g.Labels))
	chance.Shuffle(len(rules), func(i, j int) { rules[i], rules[j] = rules[j], rules[i] })
	for i, name := range rules {
		out.Rules[i].Name = []byte(name)
	}
	for i, name := range labels {
		out.Labels[i].Name = []byte(name)
	}
	return out
}

// asRenamed fails unless the two grammars, which differ in names alone, have
// the same report but for the labels' names in its text. It answers the code.
func asRenamed(t *testing.T, one, two impl.Grammar, input string, fuel, stack int) int {
	t.Helper()
	first := impl.Parse([]byte(grammarText(one)), []byte(input), fuel, stack)
	second := impl.Parse([]byte(grammarText(two)), []byte(input), fuel, stack)
	want := first
	if first.Code == impl.CodeOK || first.Code == impl.CodeLabel {
		want.Text = []byte(textRenamed(one, two, first, input))
	}
	if told(second) != told(want) {
		t.Fatalf("%s on %.60q: %.900s, but %.900s with the names of %s", grammarText(one), input, told(first), told(second), grammarText(two))
	}
	return first.Code
}

// textRenamed answers the text of a report with the labels' names of another
// grammar: behind the place of each diagnostic stands the name of its label.
func textRenamed(one, two impl.Grammar, r impl.Report, input string) string {
	labels := []int{r.Label}
	if r.Code == impl.CodeOK {
		labels = nil
		for _, n := range r.Nodes {
			if n.Kind == impl.EvError {
				labels = append(labels, n.Arg)
			}
		}
	}
	lines := strings.Split(string(r.Text), "\n")
	for i := 0; i < len(lines)-1; i += 3 {
		label := labels[i/3]
		place, found := strings.CutSuffix(lines[i], ": "+string(one.Labels[label].Name))
		if !found {
			return "no name in " + lines[i]
		}
		lines[i] = place + ": " + string(two.Labels[label].Name)
	}
	return strings.Join(lines, "\n")
}

// Promise 15, of grammars by hand, with every code that a grammar's report
// can have; rules and labels may have the same names.
func TestPromise15(t *testing.T) {
	long := strings.Repeat("a", impl.MaxInput+1)
	for _, c := range []struct {
		one, two, input string
		fuel            int
		code            int
	}{
		{`s = t (t / ^e)* ; t = "a" ; ^e = "b" ;`, `t = s (s / ^s)* ; s = "a" ; ^s = "b" ;`, "aabab", 1000, impl.CodeOK},
		{`s = (^b "b" / ^a "a" / ^c)* ; ^a = "a" ; ^b = "a" ; ^c = . ;`, `z = (^m1 "b" / ^Zz "a" / ^x)* ; ^Zz = "a" ; ^m1 = "a" ; ^x = . ;`, "aaab\nc", 1000, impl.CodeOK},
		{`s = ("a" / ^e)* ; ^e = . ;`, `_ = ("a" / ^wherever)* ; ^wherever = . ;`, strings.Repeat("e: e\n", 30), 10000, impl.CodeOK},
		{`s = "a" t "c" ; t = "b" ;`, `b = "a" a "c" ; a = "b" ;`, "abd", 1000, impl.CodeFail},
		{`s = "a" (^b / ^c) ; t = ^a ;`, `a = "a" (^n / ^o) ; b = ^m ;`, "ab", 1000, impl.CodeLabel},
		{`s = "a" (^b / ^c) ; t = ^a ;`, `a = "a" (^n / ^o) ; b = ^m ;`, "ab", 3, impl.CodeExhausted},
		{`s = . ; t = t ; ^e = . ;`, `t = . ; s = s ; ^s = . ;`, "ab", 1000, impl.CodeLeft},
		{`s = . ; t = . ; ^e = ""* ;`, `t = . ; s = . ; ^s = ""* ;`, "ab", 1000, impl.CodeLoop},
		{`s = . ; ^e = . ;`, `t = . ; ^s = . ;`, long, 1000, impl.CodeLimit},
		{`s = . ; ^e = . ;`, `t = . ; ^s = . ;`, "ab", -1, impl.CodeBad},
	} {
		if code := asRenamed(t, read(t, c.one), read(t, c.two), c.input, c.fuel, 100); code != c.code {
			t.Errorf("%s on %q: code %d", c.one, c.input, code)
		}
	}
}

// Promise 15, of grammars by chance.
func TestPromise15ByChance(t *testing.T) {
	chance := rand.New(rand.NewSource(59))
	codes := map[int]int{}
	for i := range 3000 {
		g, input := livelyGrammar(chance), livelyInput(chance, 20)
		if i%4 == 0 {
			g, input = leanGrammar(chance), inputsOf[chance.Intn(len(inputsOf))]
		}
		codes[asRenamed(t, g, renamed(chance, g), input, 300+chance.Intn(1000), 50)]++
	}
	for _, code := range []int{impl.CodeOK, impl.CodeFail, impl.CodeLabel, impl.CodeExhausted, impl.CodeLeft, impl.CodeLoop} {
		if codes[code] < 20 {
			t.Errorf("codes %v: the test looks at some sides only", codes)
		}
	}
}
