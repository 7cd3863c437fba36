package tests

import (
	"bytes"
	"fmt"
	"math"
	"math/rand"
	"slices"
	"strings"
	"testing"

	"loop.example/s0055/impl"
)

// Promise 9: a Kind that is none of the document's.
func TestPromise9Kinds(t *testing.T) {
	for _, kind := range append([]int{-1, -2, 13, 14, 255, 256, 269}, far...) {
		wrong := impl.Ins{Kind: kind, Arg: 1, To: 0, Set: []int{0, 255}}
		runs(t, "a wrong kind", program(wrong), "a", 1, 0, bad)
		runs(t, "a wrong kind behind others", program(iTest('a', 'a'), iChoice(0), wrong, iEnd), "a", 3, 1, bad)
		runs(t, "a wrong kind that is not reached", program(iEnd, wrong), "a", 1, 0, ok(0, 1, 0))
	}
}

// outside answers indexes of no instruction of a program of this size.
func outside(size int) []int {
	return append([]int{-1, -2, -1000, size, size + 1, size + 1000}, far...)
}

// Promise 9: a To before the program, behind it and just behind it. That the
// index is wrong is found without a step.
func TestPromise9Leads(t *testing.T) {
	never := iTest()
	for _, c := range []struct {
		what        string
		fuel, stack int
		make        func(to int) []impl.Ins
	}{
		{"call", 1, 1, func(to int) []impl.Ins { return program(iCall(to)) }},
		{"commit", 2, 1, func(to int) []impl.Ins { return program(iChoice(0), iCommit(to)) }},
		{"partial", 2, 1, func(to int) []impl.Ins { return program(iChoice(0), iPartial(to)) }},
		{"choice", 2, 1, func(to int) []impl.Ins { return program(iChoice(to), never) }},
		{"choice, after partial", 3, 1, func(to int) []impl.Ins { return program(iChoice(to), iPartial(2), never) }},
		{"not", 2, 1, func(to int) []impl.Ins { return program(iNot(to), never) }},
		{"not, after a throw", 2, 1, func(to int) []impl.Ins { return program(iNot(to), iThrow(1, 0)) }},
	} {
		for size := range 4 {
			rest := slices.Repeat([]impl.Ins{iEnd}, size)
			for _, to := range outside(len(c.make(0)) + size) {
				runs(t, fmt.Sprint(c.what, " to ", to), append(c.make(to), rest...), "a", c.fuel, c.stack, bad)
			}
		}
	}
	for _, to := range outside(2) {
		if prog := program(iThrow(to, to), iEnd); to < 0 {
			runs(t, fmt.Sprint("throw to ", to), prog, "a", 1, 0, labeled(to, 0, 1, 1))
		} else {
			runs(t, fmt.Sprint("throw to ", to), prog, "a", 1, 1, bad)
		}
	}
	for _, to := range outside(3) {
		runs(t, "a lead that is not needed", program(iChoice(to), iCommit(2), iEnd), "a", 3, 1, ok(0, 3, 0))
		prog := program(iTest('a', 'a'), iOpen(4), iEnd)
		for i := range prog {
			prog[i].To = to
		}
		runs(t, "leads that mean nothing", prog, "a", 3, 0, ok(1, 3, 0, opened(4, 1)))
	}
}

// An Arg may be any number, and goes where the document says or nowhere.
func TestRunArgs(t *testing.T) {
	for _, n := range append([]int{-1, 0, 1, 255}, far...) {
		prog := program(iOpen(n), iError(n), iClose(n), iEnd)
		runs(t, "events", prog, "", 4, 0, ok(0, 4, 0, opened(n, 0), erred(n, 0), closed(n, 0)))
		runs(t, "label", program(iTest('a', 'a'), iThrow(n, -1)), "a", 2, 0, labeled(n, 1, 2, 1))
		prog = program(iCall(2), iEnd, iChoice(4), iCommit(4), iTest('a', 'a'), iNot(8), iTest(), iTwice, iRet)
		for i := range prog {
			prog[i].Arg = n
		}
		runs(t, "Args that mean nothing", prog, "a", 8, 2, ok(1, 8, 0))
	}
}

// Promise 9: Sets in any form hold the bytes of their pairs.
func TestPromise9Sets(t *testing.T) {
	lo, hi := math.MinInt, math.MaxInt
	for _, c := range []struct{ set, want []int }{
		{nil, nil},
		{[]int{}, nil},
		{[]int{97}, nil},
		{[]int{0}, nil},
		{[]int{97, 97}, []int{97, 97}},
		{[]int{97, 97, 98}, []int{97, 97}},
		{[]int{97, 97, 0, 255, 99}, []int{0, 255}},
		{[]int{98, 97}, nil},
		{[]int{98, 97, 100, 101}, []int{100, 101}},
		{[]int{255, 0}, nil},
		{[]int{99, 100, 97, 98}, []int{97, 100}},
		{[]int{99, 100, 97, 98, 120}, []int{97, 100}},
		{[]int{120, 122, 97, 98, 110, 110}, []int{97, 98, 110, 110, 120, 122}},
		{[]int{97, 99, 98, 100}, []int{97, 100}},
		{[]int{97, 110, 98, 100}, []int{97, 110}},
		{[]int{98, 100, 97, 110}, []int{97, 110}},
		{[]int{97, 97, 97, 97, 97, 97}, []int{97, 97}},
		{[]int{97, 97, 98, 98, 99, 99}, []int{97, 99}},
		{[]int{97, 97, 99, 99}, []int{97, 97, 99, 99}},
		{[]int{0, 0, 255, 255}, []int{0, 0, 255, 255}},
		{[]int{255, 255}, []int{255, 255}},
		{[]int{0, 255}, []int{0, 255}},
		{[]int{-1, 256}, []int{0, 255}},
		{[]int{-5, 3}, []int{0, 3}},
		{[]int{250, 300}, []int{250, 255}},
		{[]int{-3, -1}, nil},
		{[]int{-3, 0}, []int{0, 0}},
		{[]int{256, 300}, nil},
		{[]int{255, 300}, []int{255, 255}},
		{[]int{256, 256, -1, -1}, nil},
		{[]int{97 + 256, 98 + 256, 97 - 256, 98 - 256}, nil},
		{[]int{lo, hi}, []int{0, 255}},
		{[]int{hi, lo}, nil},
		{[]int{lo, lo, hi, hi}, nil},
		{[]int{lo, 5, 250, hi}, []int{0, 5, 250, 255}},
		{[]int{lo, -1, 256, hi}, nil},
		{[]int{5, lo, hi, 250}, nil},
		{[]int{lo, 5, hi}, []int{0, 5}},
	} {
		in := func(b int) bool {
			return slices.ContainsFunc(pairsOf(c.want), func(p [2]int) bool { return p[0] <= b && b <= p[1] })
		}
		for b := range 256 {
			want := expecting(unmatched(1, 0), 0, c.want...)
			if in(b) {
				want = ok(1, 2, 0)
			}
			got := impl.Run(program(iTest(c.set...), iEnd), []byte{byte(b)}, 2, 0)
			if tell(got) != tell(want) {
				t.Fatalf("set %v on %d: %s, want %s", c.set, b, tell(got), tell(want))
			}
		}
		// What is expected already stays, and the set comes to it.
		both := setOf(func(b int) bool { return in(b) || b == 200 || b == 9 })
		runs(t, fmt.Sprint("set ", c.set), program(iChoice(2), iTest(200, 200, 9, 9), iTest(c.set...)), "", 3, 1, expecting(unmatched(3, 0), 0, both...))
		runs(t, fmt.Sprint("set ", c.set), program(iChoice(2), iTest(c.set...), iTest(200, 200, 9, 9)), "", 3, 1, expecting(unmatched(3, 0), 0, both...))
	}
}

func pairsOf(set []int) [][2]int {
	var all [][2]int
	for pair := range slices.Chunk(set, 2) {
		all = append(all, [2]int(pair))
	}
	return all
}

// Promise 9: Sets by chance.
func TestPromise9SetsByChance(t *testing.T) {
	chance := rand.New(rand.NewSource(23))
	numbers := append([]int{-1, 0, 1, 9, 10, 97, 98, 254, 255, 256}, far...)
	for range 2000 {
		list := make([]int, chance.Intn(12))
		for i := range list {
			list[i] = numbers[chance.Intn(len(numbers))]
			if chance.Intn(2) == 0 {
				list[i] = chance.Intn(300) - 20
			}
		}
		input := string([]byte{byte(chance.Intn(256)), 'a'})
		asMachine(t, program(iTest(list...), iTest(list...), iTest(list...), iEnd), input, 9, 0)
	}
}

// A Set of MaxSet numbers, and of one more, wherever it stands.
func TestPromise9LongSets(t *testing.T) {
	for _, size := range []int{impl.MaxSet - 1, impl.MaxSet, impl.MaxSet + 1, impl.MaxSet + 2, 5000} {
		long := make([]int, size)
		for i := range long {
			long[i] = 98
		}
		// The last pair that MaxSet allows counts too.
		if size >= impl.MaxSet {
			long[impl.MaxSet-2], long[impl.MaxSet-1] = 97, 97
		}
		want := func(o impl.Outcome) impl.Outcome {
			if size > impl.MaxSet {
				return bad
			}
			return o
		}
		check := func(what string, prog []impl.Ins, input string, o impl.Outcome) {
			t.Helper()
			if got := impl.Run(prog, []byte(input), 9, 1); tell(got) != tell(want(o)) {
				t.Errorf("%s, a set of %d numbers: %s, want %s", what, size, tell(got), tell(want(o)))
			}
		}
		check("b", program(iTest(long...), iEnd), "b", ok(1, 2, 0))
		if size >= impl.MaxSet {
			check("a", program(iTest(long...), iEnd), "a", ok(1, 2, 0))
			check("c", program(iTest(long...), iEnd), "c", expecting(unmatched(1, 0), 0, 97, 98))
		} else {
			check("c", program(iTest(long...), iEnd), "c", expecting(unmatched(1, 0), 0, 98, 98))
		}
		for kind := -1; kind <= 13; kind++ {
			check("not reached", program(iEnd, impl.Ins{Kind: kind, Set: long}), "a", ok(0, 1, 0))
			check("not reached, in the middle", program(iEnd, impl.Ins{Kind: kind, Set: long}, iEnd, iTest(), iEnd), "a", ok(0, 1, 0))
		}
		check("in front", program(impl.Ins{Kind: impl.InsOpen, Set: long}, iEnd), "a", ok(0, 2, 0, opened(0, 0)))
		// A long set is found however little fuel there is.
		if got := impl.Run(program(iTest(long...)), nil, 0, 0); tell(got) != tell(want(exhausted)) {
			t.Errorf("without fuel, a set of %d numbers: %s", size, tell(got))
		}
	}
}

func TestRunBounds(t *testing.T) {
	progs := [][]impl.Ins{program(iEnd), program(iThrow(1, -1)), program(iTest()), compiled(t, read(t, `s = "a"* ;`))}
	for _, prog := range progs {
		for _, fuel := range []int{-1, 0, 1, 20, impl.MaxFuel, impl.MaxFuel + 1} {
			for _, stack := range []int{-1, 0, 1, 20, impl.MaxStack, impl.MaxStack + 1} {
				code := asMachine(t, prog, "aa", fuel, stack)
				outside := fuel < 0 || fuel > 50000 || stack < 0 || stack > 1000
				if outside != (code == impl.CodeBad) {
					t.Errorf("%s with fuel %d and stack %d: code %d", listing(prog), fuel, stack, code)
				}
			}
		}
		for _, n := range far {
			for _, o := range []impl.Outcome{
				impl.Run(prog, []byte("aa"), n, 20), impl.Run(prog, []byte("aa"), 20, n), impl.Run(prog, []byte("aa"), n, n),
				impl.Run(nil, nil, n, 0), impl.Run(nil, nil, 0, n),
			} {
				if tell(o) != tell(bad) {
					t.Errorf("with %d: %s", n, tell(o))
				}
			}
		}
	}
}

// Promise 9: all programs of at most three instructions that lead to each
// place in and beside the program.
func TestPromise9ShortPrograms(t *testing.T) {
	all := []impl.Ins{iTest('a', 'a'), iTwice, iRet, iOpen(3), iEnd, {Kind: 13}}
	for to := -1; to <= 3; to++ {
		all = append(all, iChoice(to), iCommit(to), iPartial(to), iNot(to), iCall(to), iThrow(4, to))
	}
	codes := map[int]int{}
	look := func(prog []impl.Ins, input string, fuel, stack int) { codes[asMachine(t, prog, input, fuel, stack)]++ }
	for _, first := range all {
		for fuel := range 5 {
			look(program(first), "a", fuel, fuel%3)
		}
		for _, second := range all {
			for fuel := range 8 {
				look(program(first, second), "a", fuel, 1+fuel%3)
			}
			for _, third := range all {
				look(program(first, second, third), "a", 12, 2)
				look(program(first, second, third), "", 7, 3)
			}
		}
	}
	for code := impl.CodeOK; code <= impl.CodeBad; code++ {
		if codes[code] < 100 {
			t.Errorf("codes %v: the test looks at some sides only", codes)
		}
	}
}

// chanceProgram answers a program of any instructions.
func chanceProgram(chance *rand.Rand, size int) []impl.Ins {
	prog := make([]impl.Ins, size)
	for i := range prog {
		kind := chance.Intn(13)
		prog[i] = impl.Ins{Kind: kind, Arg: chance.Intn(5), To: chance.Intn(size+2) - 1}
		switch chance.Intn(4) {
		case 0:
			prog[i].Set = []int{'a', 'a'}
		case 1:
			prog[i].Set = []int{'b', 'c', 'a', 'a'}
		}
	}
	return prog
}

// changedProgram answers the program with some fields changed.
func changedProgram(chance *rand.Rand, prog []impl.Ins, changes int) []impl.Ins {
	prog = slices.Clone(prog)
	for range changes {
		ins := &prog[chance.Intn(len(prog))]
		switch chance.Intn(4) {
		case 0:
			ins.Kind = chance.Intn(15) - 1
		case 1:
			ins.To = chance.Intn(len(prog)+3) - 1
		case 2:
			ins.Arg = chance.Intn(9) - 1
		case 3:
			ins.Set = [][]int{nil, {'a', 'c'}, {'b'}, {300, 400, -5, 98, 7}}[chance.Intn(4)]
		}
	}
	return prog
}

// inputsOf are inputs for grammars by chance, which know these bytes best.
var inputsOf = []string{"", "a", "b", "ab", "ba", "aab", "abab", "\x07a", "aaaaaaaa", "abcabc"}

// Promise 9: programs by chance, and compiled ones with changes.
func TestPromise9ByChance(t *testing.T) {
	chance := rand.New(rand.NewSource(24))
	codes := map[int]int{}
	look := func(prog []impl.Ins) {
		input := inputsOf[chance.Intn(len(inputsOf))]
		codes[asMachine(t, prog, input, chance.Intn(200), chance.Intn(12))]++
		codes[asMachine(t, prog, input, 300, 40)]++
	}
	for i := range 10000 {
		look(chanceProgram(chance, 1+i%12))
		look(changedProgram(chance, compiled(t, leanGrammar(chance)), i%4))
	}
	for code := impl.CodeOK; code <= impl.CodeBad; code++ {
		if codes[code] < 1000 {
			t.Errorf("codes %v: the test looks at some sides only", codes)
		}
	}
}

// leanGrammar is a grammar by chance whose sets are of the bytes a, b and c,
// so that runs of it match as often as they fail.
func leanGrammar(chance *rand.Rand) impl.Grammar {
	g := chanceGrammar(chance, 1+chance.Intn(14))
	sets := [][]int{{'a', 'a'}, {'a', 'a'}, {'b', 'b'}, {'a', 'b'}, {'a', 'c'}, {'b', 'c'}, {0, 255}, nil}
	for _, body := range nodeBodies(g) {
		for i := range body {
			if body[i].Kind == impl.OpSet {
				body[i].Set = sets[chance.Intn(len(sets))]
			}
		}
	}
	return g
}

// Promise 10: where a run is not exhausted, more fuel and more stack change
// nothing; looked at for all small fuels and stacks, so also at the edges.
func TestPromise10(t *testing.T) {
	chance := rand.New(rand.NewSource(25))
	edges := map[int]int{}
	look := func(prog []impl.Ins, input string) {
		const fuels, stacks = 40, 8
		var told [fuels][stacks]string
		for fuel := range fuels {
			for stack := range stacks {
				o := impl.Run(prog, []byte(input), fuel, stack)
				told[fuel][stack] = tell(o)
				if o.Steps > fuel {
					t.Fatalf("%s on %q: %d steps with fuel %d", listing(prog), input, o.Steps, fuel)
				}
			}
		}
		most := impl.Run(prog, []byte(input), impl.MaxFuel, impl.MaxStack)
		for fuel := range fuels {
			for stack := range stacks {
				one := told[fuel][stack]
				if one != tell(exhausted) && one != tell(most) || one == tell(exhausted) && (fuel > 0 && told[fuel-1][stack] != one || stack > 0 && told[fuel][stack-1] != one) {
					t.Fatalf("%s on %q with fuel %d and stack %d: %s", listing(prog), input, fuel, stack, one)
				}
				if fuel > 0 && one != told[fuel-1][stack] {
					edges[most.Code]++
				}
			}
		}
		if steps := most.Steps; steps > 0 && steps < fuels && told[steps-1][stacks-1] != tell(exhausted) {
			t.Fatalf("%s on %q: %s with fuel %d", listing(prog), input, told[steps-1][stacks-1], steps-1)
		}
	}
	for i := range 250 {
		input := inputsOf[chance.Intn(len(inputsOf))]
		look(compiled(t, leanGrammar(chance)), input)
		look(chanceProgram(chance, 1+i%10), input)
		look(changedProgram(chance, compiled(t, leanGrammar(chance)), 1), input)
	}
	for _, code := range []int{impl.CodeOK, impl.CodeFail, impl.CodeLabel, impl.CodeBad} {
		if edges[code] < 50 {
			t.Errorf("edges %v: the test looks at some sides only", edges)
		}
	}
}

// Promise 10 at the greatest fuel and stack.
func TestPromise10Limits(t *testing.T) {
	// A byte takes two steps, all else seven.
	stars := compiled(t, read(t, `s = .* ;`))
	const most = (impl.MaxFuel - 7) / 2
	long := strings.Repeat("x", most)
	want := expecting(ok(most, 2*most+7, 0, opened(0, 0), closed(0, most)), most, 0, 255)
	runs(t, "star", stars, long, 2*most+7, 2, want)
	if o := impl.Run(stars, []byte(long+"x"), impl.MaxFuel, impl.MaxStack); tell(o) != tell(exhausted) {
		t.Errorf("a byte more: %s", tell(o))
	}
	// Each level has a return frame and a choice frame.
	deep := compiled(t, read(t, `s = "a" s / "" ;`))
	for _, levels := range []int{1, 2, 10, impl.MaxStack / 2} {
		input := strings.Repeat("a", levels-1)
		o := impl.Run(deep, []byte(input), impl.MaxFuel, 2*levels)
		if o.Code != impl.CodeOK || o.Pos != levels-1 || o.Far != levels-1 || len(o.Events) != 2*levels {
			t.Errorf("%d levels: %s", levels, tell(o))
		}
		if o := impl.Run(deep, []byte(input), impl.MaxFuel, 2*levels-1); tell(o) != tell(exhausted) {
			t.Errorf("%d levels with a frame less: %s", levels, tell(o))
		}
	}
	if o := impl.Run(deep, bytes.Repeat([]byte("a"), impl.MaxStack/2), impl.MaxFuel, impl.MaxStack); tell(o) != tell(exhausted) {
		t.Errorf("a level more: %s", tell(o))
	}
}

// Promise 9: runs that would go on for ever, or work hard in each step, end.
func TestPromise9Endless(t *testing.T) {
	wide := slices.Repeat([]int{math.MinInt, 96, 98, math.MaxInt}, impl.MaxSet/4)
	nowhere := slices.Repeat([]int{256, 300}, impl.MaxSet/2)
	for what, prog := range map[string][]impl.Ins{
		"calls":             program(iCall(0)),
		"choices":           program(iChoice(0), iTest()),
		"choices on top":    program(iChoice(0), iCall(0)),
		"partial":           program(iChoice(0), iPartial(1)),
		"commits":           program(iChoice(0), iCommit(0)),
		"nots":              program(iNot(0), iTest()),
		"nots and throws":   program(iNot(0), iThrow(1, 0)),
		"events":            program(iChoice(0), iOpen(1), iPartial(1)),
		"events cut back":   program(iChoice(0), iOpen(1), iTest()),
		"recoveries":        program(iThrow(1, 0)),
		"throws and rets":   program(iThrow(1, 3), iChoice(0), iCommit(0), iRet),
		"great sets":        program(iChoice(0), iTest(wide...)),
		"great empty sets":  program(iChoice(0), iTest(nowhere...)),
		"calls dropped":     program(iChoice(0), iCall(2), iCall(3), iCall(4), iTest()),
		"choices in choice": program(iChoice(0), iChoice(2), iTest()),
	} {
		for _, stack := range []int{0, 1, 5, impl.MaxStack} {
			if o := impl.Run(prog, []byte("a"), impl.MaxFuel, stack); tell(o) != tell(exhausted) {
				t.Errorf("%s with stack %d: %s", what, stack, tell(o))
			}
		}
	}
	// A program of a million instructions, of which one is reached.
	many := slices.Repeat([]impl.Ins{iTest(wide...)}, 1000000)
	many[0] = iCall(len(many) - 1)
	many[len(many)-1] = iThrow(3, -1)
	runs(t, "a long program", many, "", 2, 1, labeled(3, 0, 2, 1))
	// A great input of which little is read.
	runs(t, "a great input", program(iTest(0, 0), iEnd), string(make([]byte, 1<<22)), 2, 0, ok(1, 2, 0))
}
