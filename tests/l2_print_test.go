package tests

import (
	"bytes"
	"fmt"
	"math/rand"
	"slices"
	"strings"
	"testing"

	"loop.example/s0055/impl"
)

// printed is a part of an expression's text, with the kind of its element.
type printed struct {
	text string
	kind int
}

// within answers the text, in parentheses if its element is of such a kind.
func (p printed) within(kinds ...int) string {
	if slices.Contains(kinds, p.kind) {
		return "(" + p.text + ")"
	}
	return p.text
}

// textOf tells a body as the document says, element by element on a stack.
func textOf(g impl.Grammar, body []impl.Op) string {
	const seq, alt, star, not = impl.OpSeq, impl.OpAlt, impl.OpStar, impl.OpNot
	var stack []printed
	for _, op := range body {
		text, n := "", len(stack)
		switch op.Kind {
		case impl.OpEmpty:
			text = `""`
		case impl.OpSet:
			text = setText(op.Set)
		case impl.OpRef:
			text = string(g.Rules[op.Arg].Name)
		case impl.OpThrow:
			text = "^" + string(g.Labels[op.Arg].Name)
		case seq:
			text, n = stack[n-2].within(alt)+" "+stack[n-1].within(alt, seq), n-2
		case alt:
			text, n = stack[n-2].text+" / "+stack[n-1].within(alt), n-2
		case star:
			text, n = stack[n-1].within(seq, alt, star, not)+"*", n-1
		case not:
			text, n = "!"+stack[n-1].within(seq, alt), n-1
		}
		stack = append(stack[:n], printed{text, op.Kind})
	}
	return stack[0].text
}

func byteText(b int) string {
	if i := strings.IndexByte("\n\t\r", byte(b)); i >= 0 {
		return `\` + "ntr"[i:i+1]
	}
	if strings.IndexByte("\\\"[]-^", byte(b)) >= 0 {
		return `\` + string(rune(b))
	}
	if b >= 32 && b <= 126 {
		return string(rune(b))
	}
	return fmt.Sprintf(`\x%02x`, b)
}

func setText(set []int) string {
	if len(set) == 2 && set[0] == 0 && set[1] == 255 {
		return "."
	}
	if len(set) == 2 && set[0] == set[1] {
		return `"` + byteText(set[0]) + `"`
	}
	text := "["
	for ; len(set) > 0; set = set[2:] {
		switch set[1] - set[0] {
		case 0:
			text += byteText(set[0])
		case 1:
			text += byteText(set[0]) + byteText(set[1])
		default:
			text += byteText(set[0]) + "-" + byteText(set[1])
		}
	}
	return text + "]"
}

// grammarText tells a grammar as the document says.
func grammarText(g impl.Grammar) string {
	var out strings.Builder
	for _, r := range g.Rules {
		fmt.Fprintf(&out, "%s = %s ;\n", r.Name, textOf(g, r.Body))
	}
	for _, l := range g.Labels {
		if l.Has {
			fmt.Fprintf(&out, "^%s = %s ;\n", l.Name, textOf(g, l.Body))
		}
	}
	return out.String()
}

// thereAndBack fails unless a valid grammar is printed as the document says
// and read back as it was.
func thereAndBack(t *testing.T, g impl.Grammar) {
	t.Helper()
	if !impl.ValidGrammar(g) {
		t.Fatalf("not valid: %s", show(g))
	}
	text := impl.PrintGrammar(g)
	if want := grammarText(g); string(text) != want {
		t.Fatalf("%q, want %q", text, want)
	}
	if len(text) > impl.MaxText {
		return
	}
	back, code, at := impl.ParseGrammar(text)
	if code != impl.CodeOK || at != 0 || show(back) != show(g) {
		t.Fatalf("%q: code %d at %d, %s, want %s", text, code, at, show(back), show(g))
	}
}

func TestPrintGrammar(t *testing.T) {
	cases := []struct{ text, want string }{
		{`s=a?;a="xy"/^e;^e=.;`, "s = a / \"\" ;\na = \"x\" \"y\" / ^e ;\n^e = . ;\n"},
		{`s=;`, "s = \"\" ;\n"},
		{`^z=;s=^a^z;^b=s;t=;`, "s = ^a ^z ;\nt = \"\" ;\n^b = s ;\n^z = \"\" ;\n"},
		{`s=s s s;`, "s = s s s ;\n"},
		{`s=s(s s);`, "s = s (s s) ;\n"},
		{`s=(s s)(s s);`, "s = s s (s s) ;\n"},
		{`s=(s/s)(s/s);`, "s = (s / s) (s / s) ;\n"},
		{`s=s/s/s;`, "s = s / s / s ;\n"},
		{`s=s/(s/s);`, "s = s / (s / s) ;\n"},
		{`s=s s/s s;`, "s = s s / s s ;\n"},
		{`s=s*s?s;`, "s = s* (s / \"\") s ;\n"},
		{`s=(s?)*;`, "s = (s / \"\")* ;\n"},
		{`s=(s s)*(s*)*(!s)*s*;`, "s = (s s)* (s*)* (!s)* s* ;\n"},
		{`s=!s*!!s!(s s)!(s/s)&s;`, "s = !s* !!s !(s s) !(s / s) !!s ;\n"},
		{`s=!s/!s s;`, "s = !s / !s s ;\n"},
		{`s=""* !"" []* .*;`, "s = \"\"* !\"\" []* .* ;\n"},
		{`s=[\x00][\xff][a-b][a-c][acd][a-ce-g];`, `s = "\x00" "\xff" [ab] [a-c] [acd] [a-ce-g] ;` + "\n"},
		{`s=[^a][^\x00][^\xff][^\x00-\xfe][\x00-\xff];`, "s = [\\x00-`b-\\xff] [\\x01-\\xff] [\\x00-\\xfe] \"\\xff\" . ;\n"},
		{`s=[\t\n][\t-\r][\[-\^][\\\-\"];`, `s = [\t\n] [\t-\r] [\[-\^] [\"\-\\] ;` + "\n"},
	}
	for _, c := range cases {
		g, code, _ := impl.ParseGrammar([]byte(c.text))
		if got := string(impl.PrintGrammar(g)); code != impl.CodeOK || got != c.want {
			t.Errorf("%s: code %d, %q, want %q", c.text, code, got, c.want)
		}
	}
}

// Promise 4, of expressions: each kind as the operand of each other, in rules
// and recoveries.
func TestPromise4Expressions(t *testing.T) {
	leaves := []impl.Op{empty, lit('a'), set(), set(0, 255), set('a', 'c', 'x', 'x'), ref(1), throw(0)}
	check := func(body []impl.Op) {
		if rest, found := withoutLast(body); !found || len(rest) > 0 {
			return
		}
		thereAndBack(t, impl.Grammar{
			Rules:  []impl.Rule{rule("s", body...), rule("t", throw(1))},
			Labels: []impl.Label{recovery("a", body...), bare("b")},
		})
	}
	bodies(4, append(leaves, seq, alt, star, not), check)
	bodies(7, []impl.Op{ref(0), seq, alt, star, not}, check)
}

// Every pair of parentheses is needed: without it the text tells another
// grammar, or none.
func TestPrintParenthesesNeeded(t *testing.T) {
	bodies(7, []impl.Op{ref(0), seq, alt, star, not}, func(body []impl.Op) {
		if rest, found := withoutLast(body); !found || len(rest) > 0 {
			return
		}
		g := impl.Grammar{Rules: []impl.Rule{rule("s", body...)}}
		text := impl.PrintGrammar(g)
		var open []int
		for i, b := range text {
			switch b {
			case '(':
				open = append(open, i)
			case ')':
				without := bytes.Clone(text)
				without[open[len(open)-1]], without[i] = ' ', ' '
				open = open[:len(open)-1]
				if other, code, _ := impl.ParseGrammar(without); code == impl.CodeOK && show(other) == show(g) {
					t.Fatalf("%q needs fewer parentheses", text)
				}
			}
		}
	})
}

// Promise 4, of sets: every byte alone, in a pair, as an end of a range.
func TestPromise4Sets(t *testing.T) {
	one := func(pairs ...int) {
		thereAndBack(t, impl.Grammar{Rules: []impl.Rule{rule("s", set(pairs...))}})
	}
	one()
	for lo := 0; lo < 256; lo++ {
		for hi := lo; hi < 256; hi++ {
			one(lo, hi)
		}
		for next := lo + 2; next < 256; next++ {
			one(lo, lo, next, next)
			one(lo, lo, next, 255)
			one(0, lo, next, next)
		}
	}
	one(setOf(func(b int) bool { return b%2 == 0 })...)
	one(setOf(func(b int) bool { return b%3 != 0 })...)
	one(setOf(func(b int) bool { return b%4 != 3 })...)
	one(setOf(func(b int) bool { return strings.IndexByte("\n\t\r\\\"[]-^", byte(b)) >= 0 })...)
}

func TestPrintEveryByte(t *testing.T) {
	want := []string{}
	for b := 0; b < 256; b++ {
		want = append(want, byteText(b))
	}
	for b, text := range map[int]string{0: `\x00`, 9: `\t`, 10: `\n`, 11: `\x0b`, 13: `\r`, 31: `\x1f`, 32: ` `, '"': `\"`, '#': `#`,
		'-': `\-`, ';': `;`, '[': `\[`, '\\': `\\`, ']': `\]`, '^': `\^`, '~': `~`, 127: `\x7f`, 128: `\x80`, 200: `\xc8`, 255: `\xff`} {
		want[b] = text
	}
	for b, text := range want {
		g := impl.Grammar{Rules: []impl.Rule{rule("s", lit(b))}}
		if got := string(impl.PrintGrammar(g)); got != `s = "`+text+"\" ;\n" {
			t.Errorf("byte %d: %q", b, got)
		}
		thereAndBack(t, g)
	}
}

// chanceBody answers a body of at most size elements or a few more.
func chanceBody(chance *rand.Rand, rules, labels, size int) []impl.Op {
	if size <= 1 {
		leaf := []impl.Op{empty, lit(chance.Intn(256)), set(), set(7, 200), ref(chance.Intn(rules))}
		if labels > 0 {
			leaf = append(leaf, throw(chance.Intn(labels)))
		}
		return []impl.Op{leaf[chance.Intn(len(leaf))]}
	}
	if chance.Intn(3) == 0 {
		return append(chanceBody(chance, rules, labels, size-1), []impl.Op{star, not}[chance.Intn(2)])
	}
	left := chance.Intn(size)
	body := append(chanceBody(chance, rules, labels, left), chanceBody(chance, rules, labels, size-1-left)...)
	return append(body, []impl.Op{seq, alt}[chance.Intn(2)])
}

// chanceGrammar answers a valid grammar with rules, bare labels and recoveries.
func chanceGrammar(chance *rand.Rand, size int) impl.Grammar {
	var g impl.Grammar
	rules, labels := 1+chance.Intn(5), chance.Intn(5)
	for _, name := range numbered(rules, 2) {
		g.Rules = append(g.Rules, rule(name, chanceBody(chance, rules, labels, 1+chance.Intn(size))...))
	}
	for i, name := range numbered(labels, 2) {
		if chance.Intn(2) == 0 {
			g.Labels = append(g.Labels, recovery(name, chanceBody(chance, rules, labels, 1+chance.Intn(size))...))
		} else {
			g.Labels = append(g.Labels, bare(name))
			g.Rules[0].Body = append(g.Rules[0].Body, throw(i), seq)
		}
	}
	return g
}

// Promise 4, of whole grammars.
func TestPromise4Grammars(t *testing.T) {
	chance := rand.New(rand.NewSource(3))
	for i := range 2000 {
		thereAndBack(t, chanceGrammar(chance, 1+i%60))
	}
	for _, c := range goodChanges {
		thereAndBack(t, changed(c))
	}
	thereAndBack(t, manyOps(1, impl.MaxOps-2, 1))
	thereAndBack(t, impl.Grammar{Rules: []impl.Rule{rule("s", append([]impl.Op{empty}, times(impl.MaxOps-1, not)...)...)}})
	thereAndBack(t, impl.Grammar{Rules: []impl.Rule{rule("s", append([]impl.Op{empty}, times(999, empty, alt)...)...)}})
	thereAndBack(t, impl.Grammar{Rules: []impl.Rule{rule("s", append(times(900, empty), times(899, seq)...)...)}})
}

// A printed text may be longer than one that can be read.
func TestPrintLongText(t *testing.T) {
	wide := set(setOf(func(b int) bool { return b%2 == 0 })...)
	body := []impl.Op{wide}
	for len(body) < impl.MaxOps-1 {
		body = append(body, wide, seq)
	}
	g := impl.Grammar{Rules: []impl.Rule{rule("s", body...)}}
	thereAndBack(t, g)
	if _, code, at := impl.ParseGrammar(impl.PrintGrammar(g)); code != impl.CodeLimit || at != 0 {
		t.Errorf("code %d at %d", code, at)
	}
}

// erasedByDocument tells what the document says of Erase.
func erasedByDocument(g impl.Grammar) impl.Grammar {
	var out impl.Grammar
	for _, r := range g.Rules {
		body := slices.Clone(r.Body)
		for i := range body {
			if body[i].Kind == impl.OpThrow {
				body[i] = set()
			}
		}
		out.Rules = append(out.Rules, impl.Rule{Name: r.Name, Body: body})
	}
	return out
}

// Promise 5: valid, without labels, the same rules, as many elements in each.
func TestPromise5(t *testing.T) {
	check := func(g impl.Grammar) {
		erased := impl.Erase(g)
		if !impl.ValidGrammar(g) || !impl.ValidGrammar(erased) || len(erased.Labels) != 0 || len(erased.Rules) != len(g.Rules) {
			t.Fatalf("%s, of %s", show(erased), show(g))
		}
		for i, r := range erased.Rules {
			if string(r.Name) != string(g.Rules[i].Name) || len(r.Body) != len(g.Rules[i].Body) {
				t.Fatalf("%s, of %s", show(erased), show(g))
			}
		}
		if want := erasedByDocument(g); show(erased) != show(want) {
			t.Fatalf("%s, want %s", show(erased), show(want))
		}
		if again := impl.Erase(erased); show(again) != show(erased) {
			t.Fatalf("erased twice: %s, of %s", show(again), show(erased))
		}
	}
	for _, c := range goodChanges {
		check(changed(c))
	}
	bodies(4, []impl.Op{empty, set('a', 'c'), ref(0), throw(0), throw(1), seq, alt, star, not}, func(body []impl.Op) {
		if rest, found := withoutLast(body); found && len(rest) == 0 {
			check(impl.Grammar{
				Rules:  []impl.Rule{rule("s", body...), rule("t", throw(0))},
				Labels: []impl.Label{bare("a"), recovery("b", body...)},
			})
		}
	})
	chance := rand.New(rand.NewSource(4))
	for i := range 2000 {
		check(chanceGrammar(chance, 1+i%40))
	}
}

func TestErase(t *testing.T) {
	erased := impl.Erase(sample())
	want := impl.Grammar{Rules: []impl.Rule{
		rule("s", ref(1), set(), seq, set(), alt),
		rule("T_1", set('a', 'c', 'x', 'x'), star, not, empty, seq),
	}}
	if show(erased) != show(want) {
		t.Errorf("%s, want %s", show(erased), show(want))
	}
}

// What is not valid is not printed and not erased, whatever is wrong.
func TestNotValidGrammars(t *testing.T) {
	refused := func(what string, g impl.Grammar) {
		t.Helper()
		text, erased := impl.PrintGrammar(g), impl.Erase(g)
		if len(text) != 0 || len(erased.Rules)+len(erased.Labels) != 0 {
			t.Errorf("%s: %q, %s", what, text, show(erased))
		}
	}
	for _, c := range faults {
		refused(c.what, changed(c))
	}
	for _, n := range far {
		for _, op := range []impl.Op{{Kind: n}, {Arg: n}, set(n, n), set(0, n), set(n), ref(n), throw(n), {Kind: impl.OpSeq, Arg: n}} {
			refused("far", impl.Grammar{Rules: []impl.Rule{rule("s", op)}})
			refused("far", impl.Grammar{Rules: []impl.Rule{rule("s", empty, empty, op)}})
			refused("far", impl.Grammar{Rules: []impl.Rule{rule("s", empty)}, Labels: []impl.Label{recovery("e", op)}})
			refused("far", impl.Grammar{Rules: []impl.Rule{rule("s", throw(0))}, Labels: []impl.Label{{Name: []byte("e"), Body: []impl.Op{op}}}})
		}
	}
}

// Grammars that are wrong in ways nobody listed: no call panics, and all
// three functions agree on what is valid.
func TestAnyGrammar(t *testing.T) {
	chance := rand.New(rand.NewSource(5))
	numbers := append([]int{-1, 0, 0, 0, 0, 1, 1, 2, 3, 4, 5, 6, 7, 8, 255, 256}, far...)
	number := func() int { return numbers[chance.Intn(len(numbers))] }
	breakOne := func(body []impl.Op) []impl.Op {
		if len(body) == 0 || chance.Intn(4) == 0 {
			return append(body, impl.Op{Kind: number(), Arg: number()})
		}
		op := &body[chance.Intn(len(body))]
		switch chance.Intn(4) {
		case 0:
			op.Kind = number()
		case 1:
			op.Arg = number()
		case 2:
			op.Set = append(op.Set, number(), number())[:chance.Intn(2)+1]
		case 3:
			return body[:chance.Intn(len(body))]
		}
		return body
	}
	valid := 0
	for range 20000 {
		g := chanceGrammar(chance, 5)
		for range 1 + chance.Intn(2) {
			if n := len(g.Labels); n > 0 && chance.Intn(3) == 0 {
				l := &g.Labels[chance.Intn(n)]
				l.Has, l.Body = chance.Intn(2) == 0, breakOne(l.Body)
			} else {
				r := &g.Rules[chance.Intn(len(g.Rules))]
				r.Body = breakOne(r.Body)
			}
		}
		if impl.ValidGrammar(g) {
			valid++
			thereAndBack(t, g)
		}
		text, erased := impl.PrintGrammar(g), impl.Erase(g)
		if impl.ValidGrammar(g) != (len(text) > 0) || impl.ValidGrammar(g) != impl.ValidGrammar(erased) {
			t.Fatalf("%q, %s, of %s", text, show(erased), show(g))
		}
	}
	if valid == 0 || valid == 20000 {
		t.Errorf("%d valid grammars: the test looks at one side only", valid)
	}
}

// withRoom answers the grammar with all its lists in new memory that has room
// behind it, and the whole memory, to look at afterwards.
func withRoom(g impl.Grammar) (impl.Grammar, impl.Grammar) {
	name := func(name []byte) ([]byte, []byte) { return roomy(string(name)) }
	body := func(body []impl.Op) ([]impl.Op, []impl.Op) {
		whole := slices.Clone(body)
		for i, op := range whole {
			whole[i].Set = append(slices.Clone(op.Set), 77, 77)[:len(op.Set)]
		}
		whole = append(whole, lit('~'), lit('~'))
		return whole[:len(body)], whole
	}
	var seen, whole impl.Grammar
	for _, r := range g.Rules {
		n, nWhole := name(r.Name)
		b, bWhole := body(r.Body)
		seen.Rules = append(seen.Rules, impl.Rule{Name: n, Body: b})
		whole.Rules = append(whole.Rules, impl.Rule{Name: nWhole, Body: bWhole})
	}
	for _, l := range g.Labels {
		n, nWhole := name(l.Name)
		b, bWhole := body(l.Body)
		seen.Labels = append(seen.Labels, impl.Label{Name: n, Has: l.Has, Body: b})
		whole.Labels = append(whole.Labels, impl.Label{Name: nWhole, Has: l.Has, Body: bWhole})
	}
	return seen, whole
}

// roomShown tells a grammar with what lies behind its sets.
func roomShown(g impl.Grammar) string {
	out := show(g)
	for _, r := range g.Rules {
		for _, op := range r.Body {
			out += fmt.Sprint(op.Set[:cap(op.Set)])
		}
	}
	for _, l := range g.Labels {
		for _, op := range l.Body {
			out += fmt.Sprint(op.Set[:cap(op.Set)])
		}
	}
	return out
}

func TestGrammarsStayAsTheyAre(t *testing.T) {
	grammars := []impl.Grammar{sample(), manyOps(3, 4, 5), changed(faults[len(faults)-1])}
	chance := rand.New(rand.NewSource(6))
	for range 50 {
		grammars = append(grammars, chanceGrammar(chance, 20))
	}
	for _, c := range grammars {
		g, whole := withRoom(c)
		before := roomShown(whole)
		impl.ValidGrammar(g)
		text := impl.PrintGrammar(g)
		erased, again := impl.Erase(g), impl.Erase(g)
		all := append(memories("argument", g), memories("erased", erased)...)
		all = append(all, memories("erased again", again)...)
		all = append(all, memory("text", text), memory("text again", impl.PrintGrammar(g)))
		apart(t, all)
		for i := range text[:cap(text)] {
			text[:cap(text)][i] = '!'
		}
		if got := roomShown(whole); got != before {
			t.Fatalf("an argument is changed: %s, it was %s", got, before)
		}
	}
}

// An answer with elements that are the same still has a list for each.
func TestEraseMemory(t *testing.T) {
	pairs := []int{'a', 'c'}
	same := impl.Op{Kind: impl.OpSet, Set: pairs}
	body := []impl.Op{same, same, seq, throw(0), seq, throw(0), seq}
	g := impl.Grammar{
		Rules:  []impl.Rule{rule("s", body...), {Name: []byte("t"), Body: body}},
		Labels: []impl.Label{recovery("e", body...)},
	}
	erased := impl.Erase(g)
	apart(t, append(memories("erased", erased), memory("argument", pairs), memory("argument", body)))
	told := show(erased)
	pairs[0], body[3].Kind, g.Rules[0].Name[0] = 'b', impl.OpEmpty, 'x'
	if show(erased) != told {
		t.Error("the answer keeps an argument")
	}
}
