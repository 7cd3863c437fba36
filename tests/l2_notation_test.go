package tests

import (
	"bytes"
	"fmt"
	"math/rand"
	"regexp"
	"slices"
	"strconv"
	"strings"
	"testing"

	"loop.example/s0055/impl"
)

// wantFault fails unless the text is refused with this code and offset.
func wantFault(t *testing.T, text string, code, at int) {
	t.Helper()
	g, gotCode, gotAt := impl.ParseGrammar([]byte(text))
	if gotCode != code || gotAt != at || len(g.Rules)+len(g.Labels) != 0 {
		t.Errorf("%.80q: code %d at %d with %d rules, want %d at %d", text, gotCode, gotAt, len(g.Rules), code, at)
	}
}

// wantGrammar fails unless the text is read as this grammar.
func wantGrammar(t *testing.T, text string, want impl.Grammar) {
	t.Helper()
	g, code, at := impl.ParseGrammar([]byte(text))
	if code != impl.CodeOK || at != 0 || show(g) != show(want) {
		t.Errorf("%.80q: code %d at %d, %s, want %s", text, code, at, show(g), show(want))
	}
	if !impl.ValidGrammar(g) {
		t.Errorf("%.80q: the answer is not valid", text)
	}
}

func TestNotationParts(t *testing.T) {
	a, b, c, every, s := lit('a'), lit('b'), lit('c'), set(0, 255), ref(0)
	cases := []struct {
		text string
		want []impl.Op
	}{
		{``, []impl.Op{empty}},
		{`""`, []impl.Op{empty}},
		{`s`, []impl.Op{s}},
		{`.`, []impl.Op{every}},
		{`"a"`, []impl.Op{a}},
		{`"ab"`, []impl.Op{a, b, seq}},
		{`"abca"`, []impl.Op{a, b, seq, c, seq, a, seq}},
		{`"ab" "c"`, []impl.Op{a, b, seq, c, seq}},
		{`"a" "bc"`, []impl.Op{a, b, c, seq, seq}},
		{`"" "a"`, []impl.Op{empty, a, seq}},
		{`"ab"* "ab"? !"ab"`, []impl.Op{a, b, seq, star, a, b, seq, empty, alt, seq, a, b, seq, not, seq}},
		{`"\n\t\r\\\"\[\]\-\^"`, []impl.Op{lit(10), lit(9), seq, lit(13), seq, lit('\\'), seq, lit('"'), seq, lit('['), seq, lit(']'), seq, lit('-'), seq, lit('^'), seq}},
		{`"\x00\xfF\xAa\x7b"`, []impl.Op{lit(0), lit(255), seq, lit(170), seq, lit('{'), seq}},
		{`"[]-^#;"`, []impl.Op{lit('['), lit(']'), seq, lit('-'), seq, lit('^'), seq, lit('#'), seq, lit(';'), seq}},
		{"\" \t\r\x00\xff\"", []impl.Op{lit(' '), lit('\t'), seq, lit('\r'), seq, lit(0), seq, lit(255), seq}},
		{`[]`, []impl.Op{set()}},
		{`[^]`, []impl.Op{every}},
		{`[a]`, []impl.Op{a}},
		{`[a-a]`, []impl.Op{a}},
		{`[ba]`, []impl.Op{set('a', 'b')}},
		{`[c-ea-c]`, []impl.Op{set('a', 'e')}},
		{`[a-cb-f]`, []impl.Op{set('a', 'f')}},
		{`[acac]`, []impl.Op{set('a', 'a', 'c', 'c')}},
		{`[x-za-c]`, []impl.Op{set('a', 'c', 'x', 'z')}},
		{`[^b-y]`, []impl.Op{set(0, 'a', 'z', 255)}},
		{`[^\x00-\xff]`, []impl.Op{set()}},
		{`[\x00-\xff]`, []impl.Op{every}},
		{`[^\x00\xff]`, []impl.Op{set(1, 254)}},
		{`[\x01-\xff]`, []impl.Op{set(1, 255)}},
		{`[[]`, []impl.Op{lit('[')}},
		{`["#;/ .]`, []impl.Op{set(' ', ' ', '"', '#', '.', '/', ';', ';')}},
		{`[\^\]\-\[\\\"\n\t\r]`, []impl.Op{set(9, 10, 13, 13, '"', '"', '-', '-', '[', '^')}},
		{`[\--\^]`, []impl.Op{set('-', '^')}},
		{`[^\^]`, []impl.Op{set(0, '^'-1, '^'+1, 255)}},
		{"[\x80-\xff\x00]", []impl.Op{set(0, 0, 128, 255)}},
		{`()`, []impl.Op{empty}},
		{`(((s)))`, []impl.Op{s}},
		{`s s s`, []impl.Op{s, s, seq, s, seq}},
		{`s (s s)`, []impl.Op{s, s, s, seq, seq}},
		{`s/s/s`, []impl.Op{s, s, alt, s, alt}},
		{`s/(s/s)`, []impl.Op{s, s, s, alt, alt}},
		{`/`, []impl.Op{empty, empty, alt}},
		{`s/`, []impl.Op{s, empty, alt}},
		{`/s`, []impl.Op{empty, s, alt}},
		{`(/)`, []impl.Op{empty, empty, alt}},
		{`s . / "a" b`, []impl.Op{s, every, seq, a, ref(1), seq, alt}},
		{`s*`, []impl.Op{s, star}},
		{`s?`, []impl.Op{s, empty, alt}},
		{`(s*)?`, []impl.Op{s, star, empty, alt}},
		{`(s?)*`, []impl.Op{s, empty, alt, star}},
		{`!s`, []impl.Op{s, not}},
		{`&s`, []impl.Op{s, not, not}},
		{`!!s`, []impl.Op{s, not, not}},
		{`!&!s`, []impl.Op{s, not, not, not, not}},
		{`!s*`, []impl.Op{s, star, not}},
		{`&s?`, []impl.Op{s, empty, alt, not, not}},
		{`(!s)*`, []impl.Op{s, not, star}},
		{`!s s`, []impl.Op{s, not, s, seq}},
		{`!(s s)`, []impl.Op{s, s, seq, not}},
		{`s* s? s`, []impl.Op{s, star, s, empty, alt, seq, s, seq}},
	}
	for _, c := range cases {
		wantGrammar(t, "s = "+c.text+" ; b = ;", impl.Grammar{Rules: []impl.Rule{rule("s", c.want...), rule("b", empty)}})
	}
}

// Every byte by itself and as an escape of each sort, in strings and classes.
func TestNotationBytes(t *testing.T) {
	named := map[byte]int{'n': 10, 't': 9, 'r': 13, '\\': '\\', '"': '"', '[': '[', ']': ']', '-': '-', '^': '^'}
	for b := 0; b < 256; b++ {
		plain := func(barred string, open, end string) {
			text := "s = " + open + string([]byte{byte(b)}) + end + ";"
			if strings.IndexByte(barred, byte(b)) >= 0 {
				_, code, at := impl.ParseGrammar([]byte(text))
				if code != impl.CodeSyntax || at < 4 {
					t.Errorf("%q: code %d at %d", text, code, at)
				}
				return
			}
			wantGrammar(t, text, impl.Grammar{Rules: []impl.Rule{rule("s", lit(b))}})
		}
		plain("\"\\\n", `"`, `"`)
		if b != '^' { // [^] is all bytes
			plain("]-\\\n", `[`, `]`)
		}
		for _, quotes := range []string{`""`, `[]`} {
			text := fmt.Sprintf("s = %c\\%s%c;", quotes[0], string([]byte{byte(b)}), quotes[1])
			if value, found := named[byte(b)]; found {
				wantGrammar(t, text, impl.Grammar{Rules: []impl.Rule{rule("s", lit(value))}})
			} else {
				wantFault(t, text, impl.CodeSyntax, 4)
			}
			for _, form := range []string{"s = %c\\x%02x%c;", "s = %c\\x%02X%c;"} {
				wantGrammar(t, fmt.Sprintf(form, quotes[0], b, quotes[1]), impl.Grammar{Rules: []impl.Rule{rule("s", lit(b))}})
			}
			for _, form := range []string{"s = %c\\x%s0%c;", "s = %c\\x0%s%c;"} {
				if !strings.Contains("0123456789abcdefABCDEF", string([]byte{byte(b)})) {
					wantFault(t, fmt.Sprintf(form, quotes[0], string([]byte{byte(b)}), quotes[1]), impl.CodeSyntax, 4)
				}
			}
		}
	}
}

// Every byte between two tokens.
func TestNotationBetweenTokens(t *testing.T) {
	for b := 0; b < 256; b++ {
		text := "s " + string([]byte{byte(b)}) + "= ;"
		switch {
		case strings.IndexByte(" \t\r\n", byte(b)) >= 0:
			wantGrammar(t, text, impl.Grammar{Rules: []impl.Rule{rule("s", empty)}})
		case b == '#':
			wantFault(t, text, impl.CodeSyntax, len(text))
		default:
			wantFault(t, text, impl.CodeSyntax, 2+strings.Count("=", string([]byte{byte(b)})))
		}
	}
}

func TestNotationBlanks(t *testing.T) {
	want := impl.Grammar{
		Rules:  []impl.Rule{rule("s", ref(1), star, throw(0), seq), rule("t", lit('a'), lit('b'), alt)},
		Labels: []impl.Label{recovery("e", set(0, 255))},
	}
	for _, text := range []string{
		`s=t*^e;t="a"/[b];^e=.;`,
		` s = t * ^ e ; t = "a" / [b] ; ^ e = . ; `,
		"s=t*\n^\te\r\n;t\t=\t\"a\"\r/\r[b];\n\n^e=.;\r\n",
		"# s = ;\ns=t*^#e\ne;t=#\n\"a\"/[b];#;\n^#\n#\re=;\ne=.;# end",
		"#\n#\n\ts=t*^e ;t=\"a\"/[b]\n# \" [ \\ \xff \x00\n;^e#x\n=.;#",
		"s=t*^e;^e=.;t=\"a\"/[b];",
		"^e=.;s=t*^e;t=\"a\"/[b];",
	} {
		wantGrammar(t, text, want)
	}
}

func TestNotationNames(t *testing.T) {
	wantGrammar(t, "e=^e e;^e=e^e;", impl.Grammar{
		Rules:  []impl.Rule{rule("e", throw(0), ref(0), seq)},
		Labels: []impl.Label{recovery("e", ref(0), throw(0), seq)},
	})
	wantGrammar(t, "ab=a b;b=ab;a=_9 Z;_9=;Z=;", impl.Grammar{Rules: []impl.Rule{
		rule("ab", ref(2), ref(1), seq), rule("b", ref(0)), rule("a", ref(3), ref(4), seq), rule("_9", empty), rule("Z", empty),
	}})
	wantGrammar(t, "^z=^y;s=^b/^a_/^a/^Q/^b;^m=s;^a=;", impl.Grammar{
		Rules: []impl.Rule{rule("s", throw(3), throw(2), alt, throw(1), alt, throw(0), alt, throw(3), alt)},
		Labels: []impl.Label{bare("Q"), recovery("a", empty), bare("a_"), bare("b"),
			recovery("m", ref(0)), bare("y"), recovery("z", throw(5))},
	})
	wantGrammar(t, "s=^x9/^xA/^x_/^xa/^x;", impl.Grammar{
		Rules:  []impl.Rule{rule("s", throw(1), throw(2), alt, throw(3), alt, throw(4), alt, throw(0), alt)},
		Labels: []impl.Label{bare("x"), bare("x9"), bare("xA"), bare("x_"), bare("xa")},
	})
}

// Each place of the notation, gone wrong by each thing that can't stand there.
func TestSyntaxFaults(t *testing.T) {
	cases := []struct {
		text string
		at   int
	}{
		// Between rules.
		{`=`, 0}, {`;`, 0}, {`/`, 0}, {`!`, 0}, {`&`, 0}, {`*`, 0}, {`?`, 0}, {`(`, 0}, {`)`, 0}, {`.`, 0}, {`"a"`, 0}, {`[a]`, 0},
		{`s=; ;`, 4}, {`s=; =`, 4}, {`s=; "a"`, 4}, {`s=; .`, 4}, {`s=; (`, 4}, {`s=; s=; !`, 8},
		// After the ^ of a rule.
		{`^ ^`, 2}, {`^ =`, 2}, {`^ ;`, 2}, {`^ "a"`, 2}, {`^ [a]`, 2}, {`^ .`, 2}, {`^ (`, 2}, {`^ )`, 2}, {`^ !`, 2}, {`^ *`, 2}, {`^ /`, 2},
		// After the name of a rule.
		{`s s`, 2}, {`s ;`, 2}, {`s /`, 2}, {`s ^`, 2}, {`s .`, 2}, {`s "a"`, 2}, {`s [a]`, 2}, {`s (`, 2}, {`s )`, 2}, {`^s s`, 3}, {`^s ^`, 3}, {`^s ;`, 3},
		// In the body, at a part's beginning.
		{`s= = ;`, 3}, {`s= * ;`, 3}, {`s= ? ;`, 3}, {`s= ) ;`, 3}, {`s= s/* ;`, 5}, {`s= (? ;`, 4}, {`s= (= ;`, 4}, {`s= (;`, 4}, {`s= s/=`, 5}, {`s= s/)`, 5},
		// After a part.
		{`s= s = ;`, 5}, {`s= s ) ;`, 5}, {`s= (s = )`, 6}, {`s= (s ;`, 6}, {`s= (s)) ;`, 6}, {`s= "a" =`, 7}, {`s= [a] =`, 7}, {`s= . =`, 5}, {`s= ^e =`, 6},
		// After a suffix.
		{`s= s** ;`, 5}, {`s= s*? ;`, 5}, {`s= s?* ;`, 5}, {`s= s?? ;`, 5}, {`s= s* =`, 6}, {`s= s* )`, 6}, {`s= (s*;`, 6},
		// After ! and &.
		{`s= !;`, 4}, {`s= &;`, 4}, {`s= !/`, 4}, {`s= &*`, 4}, {`s= !?`, 4}, {`s= !)`, 4}, {`s= !=`, 4}, {`s= !&;`, 5}, {`s= &!/`, 5}, {`s= (!)`, 5},
		// After the ^ of a throw.
		{`s= ^;`, 4}, {`s= ^^`, 4}, {`s= ^"a"`, 4}, {`s= ^[a]`, 4}, {`s= ^.`, 4}, {`s= ^(`, 4}, {`s= (^)`, 5}, {`s= !^/`, 5}, {`s= ^*`, 4}, {`s= ^=`, 4}, {`s= ^!`, 4},
		// What begins no token.
		{`@`, 0}, {`9`, 0}, {`^ 9s`, 2}, {`s @`, 2}, {`s= @ ;`, 3}, {`s= s 9 ;`, 5}, {`s= s* + ;`, 6}, {`s= ! , ;`, 5}, {`s= ^ 9 ;`, 5}, {`s= (- ;`, 4}, {`s=; ]`, 4},
		{"s=\x00;", 2}, {"s=\x7f;", 2}, {"s=\x80;", 2}, {"s=\xff;", 2}, {"s=\v;", 2}, {"s=\f;", 2}, {"s=é;", 2}, {`s='a';`, 2}, {`s=\n;`, 2}, {`s={};`, 2}, {`s=a|b;`, 3}, {`s=-;`, 2}, {`s=];`, 2}, {`s=$;`, 2}, {"s=`;", 2}, {`s=<-s;`, 2}, {`s:=s;`, 1},
	}
	for _, c := range cases {
		wantFault(t, c.text, impl.CodeSyntax, c.at)
		wantFault(t, c.text+" @", impl.CodeSyntax, c.at)
		wantFault(t, c.text+" \"", impl.CodeSyntax, c.at)
		wantFault(t, "# c\n"+c.text, impl.CodeSyntax, c.at+4)
	}
}

// A string, class or escape that is wrong makes its first byte the place.
func TestSyntaxFaultsInsideTokens(t *testing.T) {
	for _, token := range []string{
		`"`, `"a`, `"a ;`, `"\`, `"\"`, `"\"a`, `"a\`, `"\x`, `"\x4`, `"\x41`, "\"a\nb\"", "\"\n\"", "\"\\\n\"", `"\q"`, `"\N"`, `"\X41"`, `"\0"`, `"\x"`, `"\x4"`, `"\x4g"`, `"\xg4"`, `"\x 4"`, `"\ "`, `"\#"`, `"\;"`, `"\'"`, `"\x:0"`, `"\x/0"`, `"\x@0"`, `"\xG0"`, "\"\\x`0\"",
		`[`, `[a`, `[a ;`, `[^`, `[^a`, `[\`, `[\]`, `[\x4`, `[\x4]`, `[a-`, `[a-b`, `[a-]`, `[a-\`, `[-]`, `[-a]`, `[a--]`, `[--a]`, `[^-a]`, `[a^]`, `[^^]`, `[a-^]`, `[^a^]`, `[b-a]`, `[^b-a]`, `[ab-a]`, `[a-b-c]`, `[\xff-\x00]`, `[\x01-\x00]`, "[\n]", "[a\n]", "[a-\n]", `[\q]`, `[\ ]`, "[\\\n]", `[a\-b-]`,
	} {
		for _, before := range []string{"", "s = ", "s = s ", "s = (! ", "s = ; ", "# \"\ns=t/"} {
			for _, after := range []string{"", "\n", "\n;", "\n\"]"} {
				wantFault(t, before+token+after, impl.CodeSyntax, len(before))
			}
		}
	}
}

// What is right so far but not at its end.
func TestSyntaxIncomplete(t *testing.T) {
	whole := `^e = s ; s = !( "a" / &[b] * ) . ? ^ e ( ) / ; `
	ends := map[int]bool{0: true, 8: true, 9: true, len(whole) - 1: true, len(whole): true}
	for n := 0; n <= len(whole); n++ {
		text := whole[:n]
		_, code, at := impl.ParseGrammar([]byte(text))
		cut := strings.Count(text, `"`)%2 == 1 || strings.Count(text, "[") > strings.Count(text, "]")
		switch {
		case cut:
			if code != impl.CodeSyntax || at != strings.LastIndexAny(text, `"[`) {
				t.Errorf("%q: code %d at %d", text, code, at)
			}
		case ends[n]:
			if code == impl.CodeSyntax {
				t.Errorf("%q: code %d at %d", text, code, at)
			}
		default:
			if code != impl.CodeSyntax || at != n {
				t.Errorf("%q: code %d at %d", text, code, at)
			}
		}
	}
	for _, text := range []string{"s # = ;", "s = # ;", "s = s #", "^# e = ;", "s = ^ \t\r\n", "s = (s)\n\n"} {
		wantFault(t, text, impl.CodeSyntax, len(text))
	}
}

// Where tokens may go on is told here by a table of states, with the number
// of open parentheses beside it; no recursion as in a reader.
const (
	atRule   = iota // a rule or the end
	atName          // the name of a rule with ^
	atEquals        // =
	atPart          // a part, or what ends a seq
	atSuffix        // the same, or a suffix
	atPrefix        // a part must stand
	atThrown        // the name of a throw
	atFault
)

func goOn(state, open int, token string) (int, int) {
	switch {
	case state == atRule && token == "^":
		return atName, 0
	case (state == atRule || state == atName) && token == "s":
		return atEquals, 0
	case state == atEquals && token == "=":
		return atPart, 0
	case state == atThrown && token == "s":
		return atSuffix, open
	case state != atPart && state != atSuffix && state != atPrefix:
		return atFault, 0
	}
	switch token {
	case "!", "&":
		return atPrefix, open
	case "s", ".", `"a"`, "[b]":
		return atSuffix, open
	case "^":
		return atThrown, open
	case "(":
		return atPart, open + 1
	}
	switch {
	case state == atSuffix && (token == "*" || token == "?"):
		return atPart, open
	case state != atPrefix && token == "/":
		return atPart, open
	case state != atPrefix && token == ")" && open > 0:
		return atSuffix, open - 1
	case state != atPrefix && token == ";" && open == 0:
		return atRule, 0
	}
	return atFault, 0
}

// Promise 3: every token after every short beginning of a grammar text.
func TestPromise3Tokens(t *testing.T) {
	tokens := []string{"s", "=", ";", "/", "!", "&", "*", "?", "(", ")", ".", "^", `"a"`, "[b]", "@", `"`, "[a-]"}
	var walk func(text string, state, open, left int)
	walk = func(text string, state, open, left int) {
		_, code, at := impl.ParseGrammar([]byte(text))
		if state == atRule && code == impl.CodeSyntax {
			t.Fatalf("%q: code %d at %d, but it is in the notation", text, code, at)
		}
		if state != atRule && (code != impl.CodeSyntax || at != len(text)) {
			t.Fatalf("%q: code %d at %d, but it is not complete", text, code, at)
		}
		if left == 0 {
			return
		}
		for _, token := range tokens {
			next, nextOpen := goOn(state, open, token)
			if next != atFault {
				walk(text+token+" ", next, nextOpen, left-1)
				continue
			}
			for _, after := range []string{"", " ", " s = ;", " ;", ")", "\n@", "\n\""} {
				_, code, at := impl.ParseGrammar([]byte(text + token + after))
				if code != impl.CodeSyntax || at != len(text) {
					t.Fatalf("%q: code %d at %d, want %d", text+token+after, code, at, len(text))
				}
			}
		}
	}
	walk("", atRule, 0, 6)
	walk("s = ; s = ", atPart, 0, 4)
	walk("^ s = ( ( s ", atSuffix, 2, 4)
}

// The strings and classes of the notation, as regular expressions.
const oneEscape = `\\(?:[ntr\\"\[\]\-^]|x[0-9a-fA-F]{2})`
const classCharacter = `(?:[^\]\-^\\\n]|` + oneEscape + `)`

var (
	stringToken = regexp.MustCompile(`^"((?:[^"\\\n]|` + oneEscape + `)*)"`)
	classToken  = regexp.MustCompile(`^\[(\^?)((?:` + classCharacter + `(?:-` + classCharacter + `)?)*)\]`)
	classMember = regexp.MustCompile(classCharacter + `(?:-` + classCharacter + `)?`)
	oneOf       = regexp.MustCompile(classCharacter)
)

func byteOf(character string) int {
	switch {
	case character[0] != '\\':
		return int(character[0])
	case character[1] == 'x':
		n, _ := strconv.ParseInt(character[2:], 16, 0)
		return int(n)
	}
	if i := strings.Index("ntr", character[1:]); i >= 0 {
		return []int{10, 9, 13}[i]
	}
	return int(character[1])
}

// classBytes answers the bytes of the members of a class, if all are right.
func classBytes(members string) (in [256]bool, right bool) {
	for _, member := range classMember.FindAllString(members, -1) {
		ends := oneOf.FindAllString(member, -1)
		lo, hi := byteOf(ends[0]), byteOf(ends[len(ends)-1])
		if lo > hi {
			return in, false
		}
		for b := lo; b <= hi; b++ {
			in[b] = true
		}
	}
	return in, true
}

// setOf answers the canonical set of the bytes that are in it.
func setOf(in func(b int) bool) []int {
	var pairs []int
	for b := 0; b < 256; b++ {
		if in(b) && (b == 0 || !in(b-1)) {
			pairs = append(pairs, b)
		}
		if in(b) && (b == 255 || !in(b+1)) {
			pairs = append(pairs, b)
		}
	}
	return pairs
}

// words calls f with every text of at most size bytes out of the alphabet.
func words(size int, alphabet string, f func(word string)) {
	var grow func(word string)
	grow = func(word string) {
		f(word)
		if len(word) < size {
			for _, b := range []byte(alphabet) {
				grow(word + string([]byte{b}))
			}
		}
	}
	grow("")
}

// Promise 3, within tokens: every short string and class over the bytes that
// play a part there.
func TestPromise3Characters(t *testing.T) {
	const alphabet = "ab-^\\][\"nx4F\n"
	words(4, alphabet, func(word string) {
		text := `s="` + word + `";`
		if found := stringToken.FindString(text[2:]); found == "" {
			wantFault(t, text, impl.CodeSyntax, 2)
		} else if len(found) == len(word)+2 {
			var body []impl.Op
			for _, c := range regexp.MustCompile(`(?s)`+oneEscape+`|.`).FindAllString(word, -1) {
				body = append(body, lit(byteOf(c)))
				if len(body) > 1 {
					body = append(body, seq)
				}
			}
			if body == nil {
				body = []impl.Op{empty}
			}
			wantGrammar(t, text, impl.Grammar{Rules: []impl.Rule{rule("s", body...)}})
		}
		text = `s=[` + word + `];`
		found := classToken.FindStringSubmatch(text[2:])
		if found == nil {
			wantFault(t, text, impl.CodeSyntax, 2)
			return
		}
		in, right := classBytes(found[2])
		if !right {
			wantFault(t, text, impl.CodeSyntax, 2)
		} else if len(found[0]) == len(word)+2 {
			pairs := setOf(func(b int) bool { return in[b] == (found[1] == "") })
			wantGrammar(t, text, impl.Grammar{Rules: []impl.Rule{rule("s", set(pairs...))}})
		}
	})
}

func TestNameFaults(t *testing.T) {
	cases := []struct {
		text string
		at   int
	}{
		{"s=;s=;", 3}, {"s=; s =;", 4}, {"s=;t=;u=;t=;s=;", 9}, {"s=;^e=;^e=;", 8}, {"s=;^e=; ^ \n e=;", 12}, {"^e=;^e=;s=;s=;", 5}, {"s=;s=;^e=;^e=;", 3}, {"^s=;s=;t=;^s=;", 11},
		{"s=t;", 2}, {"s=^t t;", 5}, {"s=s t s;", 4}, {"s=t;^t=;", 2}, {"s=S;", 2}, {"s=ss;", 2}, {"ss=s;", 3}, {"s=(!u*/t);", 4}, {"s=;^e=t;", 6}, {"^e=t;s=;", 3}, {"^e=t;s=u;", 3}, {"s=u;^e=t;", 2},
		{"", 0}, {" ", 1}, {"# s=;", 5}, {"\n\n", 2}, {"^e=;", 4}, {"^e=^f; ", 7}, {"^e=.;\n# s=;\n", 12},
	}
	for _, c := range cases {
		wantFault(t, c.text, impl.CodeName, c.at)
	}
	wantFault(t, strings.Repeat("x", 40)+"=;"+strings.Repeat("x", 40)+"=;", impl.CodeName, 42)
	if g, code, at := impl.ParseGrammar(nil); code != impl.CodeName || at != 0 || len(g.Rules) != 0 {
		t.Errorf("nil: code %d at %d", code, at)
	}
}

// manyNamed answers n texts of form with names in ascending order.
func manyNamed(n int, form string) string {
	var out strings.Builder
	for _, name := range numbered(n, 4) {
		fmt.Fprintf(&out, form, name)
	}
	return out.String()
}

// The six cases of 2.4, each beside one that is looked for before it.
func TestOrderOfFaults(t *testing.T) {
	long := strings.Repeat("x", impl.MaxName+1)
	most := strings.Repeat("/", impl.MaxOps/2)
	pad := strings.Repeat(" ", impl.MaxText)
	cases := []struct {
		text     string
		code, at int
	}{
		{"@" + pad, impl.CodeLimit, 0},
		{"s=;s=;" + pad, impl.CodeLimit, 0},
		{"s=t;" + pad, impl.CodeLimit, 0},
		{"#" + pad, impl.CodeLimit, 0},
		{"s=;s=;@", impl.CodeSyntax, 6},
		{"s=;^e=;^e=; s", impl.CodeSyntax, 13},
		{"s=t;@", impl.CodeSyntax, 4},
		{"^e=;@", impl.CodeSyntax, 4},
		{long + "=;@", impl.CodeSyntax, 35},
		{"s=" + most + ";@", impl.CodeSyntax, 1003},
		{manyNamed(101, "%s=;") + "=", impl.CodeSyntax, 606},
		{"s=t;s=;", impl.CodeName, 4},
		{"s=t;^e=;^e=;", impl.CodeName, 9},
		{"^e=s;^e=;", impl.CodeName, 6},
		{"^e=;^e=;", impl.CodeName, 5},
		{long + "=;" + long + "=;", impl.CodeName, 35},
		{"s=" + most + ";s=;", impl.CodeName, 1003},
		{manyNamed(101, "%s=;") + "n0100=;n0099=;n099=;", impl.CodeName, 606 + 14},
		{manyNamed(101, "^%s=;") + "s=;s=;", impl.CodeName, 707 + 3},
		{"^e=s;", impl.CodeName, 3},
		{"s=t" + most + ";", impl.CodeName, 2},
		{"s=" + most + "t;", impl.CodeName, 1002},
		{"s=" + long + ";", impl.CodeName, 2},
		{"s=^" + long + " t;", impl.CodeName, 37},
		{manyNamed(101, "%s=;") + "s=t;", impl.CodeName, 606 + 2},
		{"s=" + manyNamed(101, "^%s ") + "t;", impl.CodeName, 2 + 606},
		{"^" + long + "=;", impl.CodeName, 36},
		{"^e=" + most + ";", impl.CodeName, 1004},
		{manyNamed(101, "^%s=;"), impl.CodeName, 707},
	}
	for _, c := range cases {
		wantFault(t, c.text, c.code, c.at)
	}
}

// Each limit of 2.4, met exactly and broken by one.
func TestNotationLimits(t *testing.T) {
	name := func(n int) string { return strings.Repeat("x", n) }
	slashes := func(n int) string { return strings.Repeat("/", n) }
	cases := []struct {
		what       string
		kept, over string
	}{
		{"text", "s=;" + strings.Repeat(" ", impl.MaxText-3), "s=;" + strings.Repeat(" ", impl.MaxText-2)},
		{"text in a comment", "s=;#" + name(impl.MaxText-4), "s=;#" + name(impl.MaxText-3)},
		{"rules", manyNamed(100, "%s=;"), manyNamed(101, "%s=;")},
		{"rules beside recoveries", manyNamed(100, "%s=;") + "^n000=;", manyNamed(101, "%s=;") + "^n000=;"},
		{"labels thrown", "s=" + manyNamed(100, "^%s ") + ";", "s=" + manyNamed(101, "^%s ") + ";"},
		{"labels recovered", "s=;" + manyNamed(100, "^%s=;"), "s=;" + manyNamed(101, "^%s=;")},
		{"labels of both sorts", "s=" + manyNamed(60, "^%s ") + ";" + manyNamed(99, "^%s=;") + "^x=;", "s=" + manyNamed(60, "^%s ") + "^x;" + manyNamed(99, "^%s=;") + "^y=;"},
		{"elements", "s=!s" + slashes(999) + ";", "s=!!s" + slashes(999) + ";"},
		{"elements in rules", "s=!s" + slashes(499) + ";t=!s" + slashes(499) + ";", "s=!s" + slashes(499) + ";t=" + slashes(500) + ";"},
		{"elements in a recovery", "s=!s" + slashes(499) + ";^e=!s" + slashes(499) + ";", "s=!s" + slashes(499) + ";^e=" + slashes(500) + ";"},
		{"elements of a string", `s="` + name(1000) + `"*;`, `s=!"` + name(1000) + `"*;`},
		{"nots", "s=s" + ";t=" + strings.Repeat("!", 1998) + "s;", "s=s" + ";t=" + strings.Repeat("!", 1999) + "s;"},
		{"ands", "s=s" + ";t=" + strings.Repeat("&", 999) + "s;", "s=!s" + ";t=" + strings.Repeat("&", 999) + "s;"},
		{"a rule's name", name(32) + "=;", name(33) + "=;"},
		{"a later rule's name", "s=;" + name(32) + "=" + name(32) + ";", "s=;" + name(33) + "=" + name(33) + ";"},
		{"a thrown label's name", "s=^" + name(32) + ";", "s=^" + name(33) + ";"},
		{"a recovered label's name", "s=;^" + name(32) + "=;", "s=;^" + name(33) + "=;"},
		{"a label's name thrown in a recovery", "s=;^e=^" + name(32) + ";", "s=;^e=^" + name(33) + ";"},
	}
	for _, c := range cases {
		g, code, at := impl.ParseGrammar([]byte(c.kept))
		if code != impl.CodeOK || at != 0 || !impl.ValidGrammar(g) {
			t.Errorf("%s: code %d at %d where the limit is kept", c.what, code, at)
		}
		wantFault(t, c.over, impl.CodeLimit, 0)
	}
}

// The deepest nesting that a text can have, whole and cut.
func TestNotationDepth(t *testing.T) {
	const half = impl.MaxText/2 - 2
	open, end := strings.Repeat("(", half), strings.Repeat(")", half)
	wantGrammar(t, "s="+open+"s"+end+";", impl.Grammar{Rules: []impl.Rule{rule("s", ref(0))}})
	wantFault(t, "s="+open+end+")", impl.CodeSyntax, 2+2*half)
	wantFault(t, "s="+open+open, impl.CodeSyntax, 2+2*half)
	wantFault(t, "s="+strings.Repeat("!(", half), impl.CodeSyntax, 2+2*half)
	wantFault(t, "s="+strings.Repeat("!", 2*half), impl.CodeSyntax, 2+2*half)
	wantFault(t, "s="+strings.Repeat("&", 2*half)+"s;", impl.CodeLimit, 0)
	wantFault(t, "s="+strings.Repeat("/", 2*half)+";", impl.CodeLimit, 0)
	wantFault(t, `s="`+strings.Repeat("x", 2*half-2)+`";`, impl.CodeLimit, 0)
	wantFault(t, "s="+open+end+"*"+"t", impl.CodeSyntax, 4+2*half)
}

// writer makes a text of the notation by chance, and beside it the elements
// that the document says its parts build.
type writer struct {
	chance *rand.Rand
	rules  []string
	labels []string // in ascending order
}

func (w writer) blank() string {
	return []string{" ", "\n", "\t", "\r", " # x\n", "#\n#\"[\n"}[w.chance.Intn(6)]
}

func (w writer) alt(depth int) (string, []impl.Op) {
	text, ops := w.seq(depth)
	for w.chance.Intn(3) == 0 {
		t, o := w.seq(depth)
		text, ops = text+"/"+t, append(append(ops, o...), alt)
	}
	return text, ops
}

func (w writer) seq(depth int) (string, []impl.Op) {
	if w.chance.Intn(8) == 0 {
		return w.blank(), []impl.Op{empty}
	}
	text, ops := w.prefix(depth)
	for w.chance.Intn(2) == 0 {
		t, o := w.prefix(depth)
		text, ops = text+w.blank()+t, append(append(ops, o...), seq)
	}
	return text, ops
}

func (w writer) prefix(depth int) (string, []impl.Op) {
	switch w.chance.Intn(8) {
	case 0:
		text, ops := w.prefix(depth)
		return "!" + w.blank() + text, append(ops, not)
	case 1:
		text, ops := w.prefix(depth)
		return "&" + text, append(ops, not, not)
	}
	text, ops := w.primary(depth)
	switch w.chance.Intn(5) {
	case 0:
		return text + "*", append(ops, star)
	case 1:
		return text + w.blank() + "?", append(ops, empty, alt)
	}
	return text, ops
}

func (w writer) primary(depth int) (string, []impl.Op) {
	switch n := w.chance.Intn(6); {
	case n == 0:
		i := w.chance.Intn(len(w.labels))
		return "^" + w.blank() + w.labels[i], []impl.Op{throw(i)}
	case n == 1:
		return `"x\x59"`, []impl.Op{lit('x'), lit('Y'), seq}
	case n == 2:
		return `[^a-c ]`, []impl.Op{set(0, 31, 33, 96, 100, 255)}
	case n == 3:
		return `.`, []impl.Op{set(0, 255)}
	case n == 4 && depth > 0:
		text, ops := w.alt(depth - 1)
		return "(" + text + w.blank() + ")", ops
	}
	i := w.chance.Intn(len(w.rules))
	return w.rules[i], []impl.Op{ref(i)}
}

func TestNotationByChance(t *testing.T) {
	w := writer{rand.New(rand.NewSource(1)), []string{"s", "b", "a_1", "S"}, []string{"S", "a", "s", "s0"}}
	for range 3000 {
		want := impl.Grammar{Labels: make([]impl.Label, len(w.labels))}
		var parts []string
		for _, name := range w.rules {
			text, ops := w.alt(2)
			parts = append(parts, name+w.blank()+"="+text+w.blank()+";")
			want.Rules = append(want.Rules, impl.Rule{Name: []byte(name), Body: ops})
		}
		for i, name := range w.labels {
			text, ops := w.alt(1)
			at := w.chance.Intn(len(parts) + 1)
			parts = slices.Insert(parts, at, "^"+name+w.blank()+"="+text+";")
			want.Labels[i] = impl.Label{Name: []byte(name), Has: true, Body: ops}
		}
		if text := strings.Join(parts, ""); len(text) <= impl.MaxText {
			wantGrammar(t, text, want)
		}
	}
}

// Whatever is read, and however often, the answer is the same and valid.
func TestNotationAnyBytes(t *testing.T) {
	chance := rand.New(rand.NewSource(2))
	const alphabet = "s=;s=;s=;/!&*?().^\"a\"[b] \n#-\\x4@"
	for range 20000 {
		text := make([]byte, chance.Intn(40))
		for i := range text {
			text[i] = alphabet[chance.Intn(len(alphabet))]
		}
		g, code, at := impl.ParseGrammar(text)
		again, code2, at2 := impl.ParseGrammar(bytes.Clone(text))
		if code != code2 || at != at2 || show(g) != show(again) {
			t.Fatalf("%q: two answers", text)
		}
		if at < 0 || at > len(text) || impl.ValidGrammar(g) != (code == impl.CodeOK) {
			t.Fatalf("%q: code %d at %d", text, code, at)
		}
	}
}

func TestNotationSameEveryTime(t *testing.T) {
	text := []byte("s=" + manyNamed(100, "^%s ") + ";" + manyNamed(50, "^%s=s;") + manyNamed(99, "%s=^n007;"))
	first, code, _ := impl.ParseGrammar(text)
	if code != impl.CodeOK {
		t.Fatalf("code %d", code)
	}
	for range 50 {
		if again, _, _ := impl.ParseGrammar(text); show(again) != show(first) {
			t.Fatal("two answers")
		}
	}
}

func TestNotationMemory(t *testing.T) {
	const source = `s=.. [a-c][a-c]"aa"^e^f t;t=s^e;^e=.^e"aa";^g=[];`
	text, whole := roomy(source)
	before := bytes.Clone(whole)
	g, code, _ := impl.ParseGrammar(text)
	again, _, _ := impl.ParseGrammar(text)
	if code != impl.CodeOK || !bytes.Equal(whole, before) {
		t.Fatalf("code %d, or the text is changed", code)
	}
	apart(t, append(append(memories("first", g), memories("second", again)...), memory("text", text)))
	told := show(g)
	for i := range whole {
		whole[i] = '!'
	}
	if show(g) != told {
		t.Error("the answer keeps the text")
	}
	wantGrammar(t, source, again)
}
