package tests

import (
	"fmt"
	"math"
	"slices"
	"strings"
	"testing"
	"unsafe"

	"loop.example/s0055/impl"
)

var (
	empty = impl.Op{Kind: impl.OpEmpty}
	seq   = impl.Op{Kind: impl.OpSeq}
	alt   = impl.Op{Kind: impl.OpAlt}
	star  = impl.Op{Kind: impl.OpStar}
	not   = impl.Op{Kind: impl.OpNot}
)

func set(pairs ...int) impl.Op { return impl.Op{Kind: impl.OpSet, Set: pairs} }

func lit(b int) impl.Op { return set(b, b) }

func ref(rule int) impl.Op { return impl.Op{Kind: impl.OpRef, Arg: rule} }

func throw(label int) impl.Op { return impl.Op{Kind: impl.OpThrow, Arg: label} }

func rule(name string, body ...impl.Op) impl.Rule {
	return impl.Rule{Name: []byte(name), Body: body}
}

func recovery(name string, body ...impl.Op) impl.Label {
	return impl.Label{Name: []byte(name), Has: true, Body: body}
}

func bare(name string) impl.Label { return impl.Label{Name: []byte(name)} }

func times(n int, ops ...impl.Op) []impl.Op { return slices.Repeat(ops, n) }

// show tells a grammar as a text that two grammars share exactly if they are
// the same, element by element; nil and empty lists are told alike.
func show(g impl.Grammar) string {
	var out strings.Builder
	for _, r := range g.Rules {
		fmt.Fprintf(&out, "rule %q %v\n", r.Name, r.Body)
	}
	for _, l := range g.Labels {
		fmt.Fprintf(&out, "label %q %v %v\n", l.Name, l.Has, l.Body)
	}
	return out.String()
}

// sample is a valid grammar that the tests change in one place.
func sample() impl.Grammar {
	return impl.Grammar{
		Rules: []impl.Rule{
			rule("s", ref(1), throw(0), seq, throw(1), alt),
			rule("T_1", set('a', 'c', 'x', 'x'), star, not, empty, seq),
		},
		Labels: []impl.Label{
			bare("a"),
			recovery("ab", set(0, 255), star),
			recovery("b", throw(0), ref(0), alt),
		},
	}
}

// numbered answers n names in ascending order, each of size bytes.
func numbered(n, size int) []string {
	names := make([]string, n)
	for i := range names {
		names[i] = fmt.Sprintf("n%0*d", size-1, i)
	}
	return names
}

func manyRules(n int) impl.Grammar {
	var g impl.Grammar
	for _, name := range numbered(n, 4) {
		g.Rules = append(g.Rules, rule(name, empty))
	}
	return g
}

func manyLabels(n int) impl.Grammar {
	g := impl.Grammar{Rules: []impl.Rule{rule("s", empty)}}
	for _, name := range numbered(n, 4) {
		g.Labels = append(g.Labels, recovery(name, empty))
	}
	return g
}

// manyOps has so many elements in its two rules and in its recovery.
func manyOps(first, second, third int) impl.Grammar {
	body := func(n int) []impl.Op { return append([]impl.Op{empty}, times(n-1, star)...) }
	return impl.Grammar{
		Rules:  []impl.Rule{rule("s", body(first)...), rule("t", body(second)...)},
		Labels: []impl.Label{recovery("e", body(third)...)},
	}
}

func TestGrammarConstants(t *testing.T) {
	kinds := []int{impl.OpEmpty, impl.OpSet, impl.OpRef, impl.OpThrow, impl.OpSeq, impl.OpAlt, impl.OpStar, impl.OpNot}
	for want, got := range kinds {
		if got != want {
			t.Errorf("kind number %d is %d", want, got)
		}
	}
	limits := []int{impl.MaxText, impl.MaxOps, impl.MaxRules, impl.MaxLabels, impl.MaxName}
	if !slices.Equal(limits, []int{4000, 2000, 100, 100, 32}) {
		t.Errorf("limits %v", limits)
	}
}

// change is a grammar told by what differs from the sample.
type change struct {
	what string
	make func(g *impl.Grammar)
}

func changed(c change) impl.Grammar {
	g := sample()
	c.make(&g)
	return g
}

// goodChanges lead from the sample to valid grammars: the edges of each point.
var goodChanges = []change{
	{"nothing", func(g *impl.Grammar) {}},
	{"one rule, no label", func(g *impl.Grammar) { *g = impl.Grammar{Rules: []impl.Rule{rule("s", empty)}} }},
	{"empty lists for nil", func(g *impl.Grammar) {
		*g = impl.Grammar{Rules: []impl.Rule{rule("s", impl.Op{Set: []int{}})}, Labels: []impl.Label{}}
	}},
	{"a bare label with an empty list", func(g *impl.Grammar) { g.Labels[0].Body = []impl.Op{} }},
	{"all rules", func(g *impl.Grammar) { *g = manyRules(impl.MaxRules) }},
	{"all labels", func(g *impl.Grammar) { *g = manyLabels(impl.MaxLabels) }},
	{"all elements in one rule", func(g *impl.Grammar) { *g = manyOps(impl.MaxOps-2, 1, 1) }},
	{"all elements in one recovery", func(g *impl.Grammar) { *g = manyOps(1, 1, impl.MaxOps-2) }},
	{"the longest name of a rule", func(g *impl.Grammar) { g.Rules[0].Name = []byte(strings.Repeat("x", impl.MaxName)) }},
	{"the longest name of a label", func(g *impl.Grammar) { g.Labels[2].Name = []byte(strings.Repeat("x", impl.MaxName)) }},
	{"a name of one underscore", func(g *impl.Grammar) { g.Rules[0].Name = []byte("_") }},
	{"every byte a name may have", func(g *impl.Grammar) {
		g.Rules[0].Name, g.Rules[1].Name = []byte("AZaz_09"), []byte("_09AZaz")
	}},
	{"a rule named as a label", func(g *impl.Grammar) { g.Rules[0].Name = []byte("ab") }},
	{"names that differ in their case", func(g *impl.Grammar) { g.Rules[1].Name = []byte("S") }},
	{"rules in descending order", func(g *impl.Grammar) { g.Rules[0].Name, g.Rules[1].Name = []byte("z"), []byte("a") }},
	{"a label thrown in a recovery alone", func(g *impl.Grammar) { g.Rules[0].Body[1] = throw(1) }},
	{"a recovery that is never thrown", func(g *impl.Grammar) { g.Rules[0].Body[3] = throw(0) }},
	{"a recovery that throws its own label", func(g *impl.Grammar) { g.Labels[2].Body[0] = throw(2) }},
	{"the last rule and the last label", func(g *impl.Grammar) { g.Rules[0].Body[0], g.Rules[0].Body[3] = ref(1), throw(2) }},
	{"labels in the order of their bytes", func(g *impl.Grammar) {
		g.Labels[0].Name, g.Labels[1].Name, g.Labels[2].Name = []byte("Z"), []byte("_"), []byte("a")
	}},
	{"labels that differ at their ends", func(g *impl.Grammar) {
		g.Labels[0].Name, g.Labels[1].Name, g.Labels[2].Name = []byte("x9"), []byte("xA"), []byte("x_")
	}},
}

// faults lead from the sample to grammars with one fault each.
var faults = []change{
	{"nothing at all", func(g *impl.Grammar) { *g = impl.Grammar{} }},
	{"no rule, empty lists", func(g *impl.Grammar) { *g = impl.Grammar{Rules: []impl.Rule{}, Labels: []impl.Label{}} }},
	{"no rule but labels", func(g *impl.Grammar) { *g = impl.Grammar{Labels: []impl.Label{recovery("e", empty)}} }},
	{"a rule too many", func(g *impl.Grammar) { *g = manyRules(impl.MaxRules + 1) }},
	{"a label too many", func(g *impl.Grammar) { *g = manyLabels(impl.MaxLabels + 1) }},
	{"an element too many in the first rule", func(g *impl.Grammar) { *g = manyOps(impl.MaxOps-1, 1, 1) }},
	{"an element too many in the second rule", func(g *impl.Grammar) { *g = manyOps(1000, 1000, 1) }},
	{"an element too many in the recovery", func(g *impl.Grammar) { *g = manyOps(1, 1, impl.MaxOps-1) }},
	{"far too many elements", func(g *impl.Grammar) { g.Rules[0].Body = append([]impl.Op{empty}, times(100000, not)...) }},
	{"a rule's name too long", func(g *impl.Grammar) { g.Rules[1].Name = []byte(strings.Repeat("x", impl.MaxName+1)) }},
	{"a label's name too long", func(g *impl.Grammar) { g.Labels[2].Name = []byte(strings.Repeat("x", impl.MaxName+1)) }},
	{"a rule's name too long before others", func(g *impl.Grammar) { g.Rules[0].Name = []byte(strings.Repeat("x", impl.MaxName+1)) }},
	{"a label's name too long before others", func(g *impl.Grammar) { g.Labels[0].Name = []byte(strings.Repeat("a", impl.MaxName+1)) }},
	{"a rule without a name", func(g *impl.Grammar) { g.Rules[1].Name = nil }},
	{"a rule with an empty name", func(g *impl.Grammar) { g.Rules[0].Name = []byte{} }},
	{"a label without a name", func(g *impl.Grammar) { g.Labels[0].Name = nil }},
	{"two rules of one name", func(g *impl.Grammar) { g.Rules[1].Name = []byte("s") }},
	{"two labels of one name", func(g *impl.Grammar) { g.Labels[1].Name = []byte("a") }},
	{"the last two labels of one name", func(g *impl.Grammar) { g.Labels[2].Name = []byte("ab") }},
	{"a label after the one it begins", func(g *impl.Grammar) { g.Labels[0].Name, g.Labels[1].Name = []byte("ab"), []byte("a") }},
	{"labels in descending order", func(g *impl.Grammar) { g.Labels[2].Name = []byte("aa") }},
	{"labels in the order of the alphabet", func(g *impl.Grammar) { g.Labels[2].Name = []byte("B") }},
	{"a rule's empty body", func(g *impl.Grammar) { g.Rules[1].Body = nil }},
	{"a recovery's empty body", func(g *impl.Grammar) { g.Labels[1].Body = nil }},
	{"a bare label with a body", func(g *impl.Grammar) { g.Labels[0].Body = []impl.Op{empty} }},
	{"a bare label with a wrong body", func(g *impl.Grammar) { g.Labels[0].Body = []impl.Op{throw(7)} }},
	{"a bare label thrown in its own body alone", func(g *impl.Grammar) {
		g.Rules[0].Body[1], g.Labels[2].Body[0] = throw(1), throw(1)
		g.Labels[0].Body = []impl.Op{throw(0)}
	}},
	{"a bare label that is never thrown", func(g *impl.Grammar) { g.Rules[0].Body[1], g.Labels[2].Body[0] = throw(1), throw(1) }},
	{"the last label bare and never thrown", func(g *impl.Grammar) { g.Labels[2].Has, g.Labels[2].Body = false, nil }},
	{"two expressions in a rule", func(g *impl.Grammar) { g.Rules[1].Body = append(g.Rules[1].Body, empty) }},
	{"two expressions in a recovery", func(g *impl.Grammar) { g.Labels[1].Body = append(g.Labels[1].Body, empty) }},
	{"an operand too few in a recovery", func(g *impl.Grammar) { g.Labels[1].Body = append(g.Labels[1].Body, alt) }},
	{"a wrong element in a recovery", func(g *impl.Grammar) { g.Labels[1].Body[0].Set[1] = 256 }},
	{"a rule in a recovery that is not there", func(g *impl.Grammar) { g.Labels[2].Body[1].Arg = 2 }},
}

func TestValidGrammar(t *testing.T) {
	for _, c := range goodChanges {
		if !impl.ValidGrammar(changed(c)) {
			t.Errorf("%s: not valid", c.what)
		}
	}
	for _, c := range faults {
		if impl.ValidGrammar(changed(c)) {
			t.Errorf("%s: valid", c.what)
		}
	}
}

func TestValidGrammarBytesOfNames(t *testing.T) {
	const letters = "ABCDEFGHIJKLMNOPQRSTUVWXYZabcdefghijklmnopqrstuvwxyz_"
	const all = letters + "0123456789"
	for b := 0; b < 256; b++ {
		for _, c := range []struct {
			name []byte
			want bool
		}{
			{[]byte{byte(b)}, strings.IndexByte(letters, byte(b)) >= 0},
			{[]byte{byte(b), 'x'}, strings.IndexByte(letters, byte(b)) >= 0},
			{[]byte{'x', byte(b)}, strings.IndexByte(all, byte(b)) >= 0},
			{[]byte{'x', byte(b), 'x'}, strings.IndexByte(all, byte(b)) >= 0},
		} {
			asRule := impl.Grammar{Rules: []impl.Rule{rule(string(c.name), empty)}}
			asLabel := impl.Grammar{Rules: []impl.Rule{rule("s", empty)}, Labels: []impl.Label{recovery(string(c.name), empty)}}
			if impl.ValidGrammar(asRule) != c.want || impl.ValidGrammar(asLabel) != c.want {
				t.Errorf("name %q: want %v", c.name, c.want)
			}
		}
	}
}

// canonicalByDocument tells what the document's words say of a set.
func canonicalByDocument(set []int) bool {
	for i, n := range set {
		switch {
		case n < 0 || n > 255:
			return false
		case i%2 == 1 && set[i-1] > n:
			return false
		case i%2 == 0 && i > 0 && n < set[i-1]+2:
			return false
		}
	}
	return len(set)%2 == 0
}

func TestValidGrammarSets(t *testing.T) {
	numbers := []int{math.MinInt, -1, 0, 1, 2, 3, 253, 254, 255, 256, math.MaxInt}
	var grow func(s []int)
	grow = func(s []int) {
		g := impl.Grammar{Rules: []impl.Rule{rule("s", set(s...))}}
		if got := impl.ValidGrammar(g); got != canonicalByDocument(s) {
			t.Errorf("set %v: %v", s, got)
		}
		if len(s) < 4 {
			for _, n := range numbers {
				grow(append(slices.Clone(s), n))
			}
		}
	}
	grow(nil)
}

func TestValidGrammarLongSets(t *testing.T) {
	var every []int
	for b := 0; b < 256; b += 2 {
		every = append(every, b, b)
	}
	for _, c := range []struct {
		set  []int
		want bool
	}{
		{every, true},
		{every[:255], false},
		{append(slices.Clone(every), 256, 256), false},
		{make([]int, 100000), false},
		{[]int{0, 1, 3, 4, 6, 7}, true},
		{[]int{0, 1, 3, 4, 5, 7}, false},
		{[]int{0, 1, 3, 4, 7, 6}, false},
	} {
		g := impl.Grammar{Rules: []impl.Rule{rule("s", set(c.set...))}}
		if got := impl.ValidGrammar(g); got != c.want {
			t.Errorf("set %.60v: %v", fmt.Sprint(c.set), got)
		}
	}
}

// Each kind with each argument and set, all else being in order.
func TestValidGrammarElements(t *testing.T) {
	numbers := []int{math.MinInt, -8, -1, 0, 1, 2, 3, 4, 5, 6, 7, 8, 9, 256, 1 << 32, math.MaxInt}
	operands := map[int]int{impl.OpSeq: 2, impl.OpAlt: 2, impl.OpStar: 1, impl.OpNot: 1}
	for _, kind := range numbers {
		for _, arg := range numbers {
			for _, pairs := range [][]int{nil, {}, {0}, {1, 1}, {2, 1}} {
				op := impl.Op{Kind: kind, Arg: arg, Set: pairs}
				g := impl.Grammar{
					Rules:  []impl.Rule{rule("a", append(times(operands[kind], empty), op)...), rule("b", empty)},
					Labels: []impl.Label{recovery("c", empty), recovery("d", empty), recovery("e", empty)},
				}
				most := map[int]int{impl.OpRef: 1, impl.OpThrow: 2}[kind]
				want := kind >= 0 && kind <= 7 && arg >= 0 && arg <= most
				if kind == impl.OpSet {
					want = want && canonicalByDocument(pairs)
				} else {
					want = want && len(pairs) == 0
				}
				if got := impl.ValidGrammar(g); got != want {
					t.Errorf("%v: %v, want %v", op, got, want)
				}
			}
		}
	}
}

// withoutLast takes the last expression off a body, going back from its end.
func withoutLast(body []impl.Op) (rest []impl.Op, found bool) {
	if len(body) == 0 {
		return nil, false
	}
	last, rest := body[len(body)-1], body[:len(body)-1]
	operands := 0
	switch last.Kind {
	case impl.OpSeq, impl.OpAlt:
		operands = 2
	case impl.OpStar, impl.OpNot:
		operands = 1
	}
	for range operands {
		if rest, found = withoutLast(rest); !found {
			return nil, false
		}
	}
	return rest, true
}

// bodies calls f with every list of at most size elements out of ops.
func bodies(size int, ops []impl.Op, f func(body []impl.Op)) {
	var grow func(body []impl.Op)
	grow = func(body []impl.Op) {
		f(slices.Clone(body))
		if len(body) < size {
			for _, op := range ops {
				grow(append(body, op))
			}
		}
	}
	grow(make([]impl.Op, 0, size))
}

func TestValidGrammarPostfix(t *testing.T) {
	bodies(5, []impl.Op{empty, lit('a'), ref(0), throw(0), seq, alt, star, not}, func(body []impl.Op) {
		rest, found := withoutLast(body)
		want := found && len(rest) == 0
		asRule := impl.Grammar{Rules: []impl.Rule{rule("s", body...)}, Labels: []impl.Label{recovery("e", empty)}}
		asRecovery := impl.Grammar{Rules: []impl.Rule{rule("s", empty)}, Labels: []impl.Label{recovery("e", body...)}}
		if impl.ValidGrammar(asRule) != want || impl.ValidGrammar(asRecovery) != want {
			t.Fatalf("%v: want %v", body, want)
		}
	})
}

// memoryOf is the memory behind one list, to the end of its capacity.
type memoryOf struct {
	what     string
	from, to uintptr
}

func memory[E any](what string, list []E) memoryOf {
	var one E
	from := uintptr(unsafe.Pointer(unsafe.SliceData(list)))
	return memoryOf{what, from, from + uintptr(cap(list))*unsafe.Sizeof(one)}
}

// memories answers the memory of every list of a grammar.
func memories(what string, g impl.Grammar) []memoryOf {
	all := []memoryOf{memory(what+" rules", g.Rules), memory(what+" labels", g.Labels)}
	body := func(what string, ops []impl.Op) {
		all = append(all, memory(what+" body", ops))
		for _, op := range ops {
			all = append(all, memory(what+" set", op.Set))
		}
	}
	for _, r := range g.Rules {
		all = append(all, memory(what+" rule's name", r.Name))
		body(what+" rule's", r.Body)
	}
	for _, l := range g.Labels {
		all = append(all, memory(what+" label's name", l.Name))
		body(what+" label's", l.Body)
	}
	return all
}

// apart fails if two of the lists share memory.
func apart(t *testing.T, all []memoryOf) {
	t.Helper()
	all = slices.DeleteFunc(all, func(m memoryOf) bool { return m.from == m.to })
	slices.SortFunc(all, func(a, b memoryOf) int {
		if a.from < b.from {
			return -1
		}
		return 1
	})
	for i := 1; i < len(all); i++ {
		if all[i].from < all[i-1].to {
			t.Errorf("%s and %s share memory", all[i-1].what, all[i].what)
		}
	}
}
