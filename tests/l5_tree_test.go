package tests

import (
	"fmt"
	"math"
	"math/rand"
	"slices"
	"testing"

	"loop.example/s0055/impl"
)

func TestReportConstants(t *testing.T) {
	if impl.MaxInput != 4000 || impl.MaxDiags != 20 {
		t.Errorf("MaxInput %d, MaxDiags %d", impl.MaxInput, impl.MaxDiags)
	}
}

// ruleNode and errorNode are nodes of a tree.
func ruleNode(arg, from, to, parent int) impl.Node {
	return impl.Node{Kind: impl.EvOpen, Arg: arg, From: from, To: to, Parent: parent}
}

func errorNode(arg, from, to, parent int) impl.Node {
	return impl.Node{Kind: impl.EvError, Arg: arg, From: from, To: to, Parent: parent}
}

// closesAt answers the index of the event that closes the one at index i: the
// first close after it with as many closes as other events in between.
func closesAt(events []impl.Event, i int) int {
	for j := i + 1; j < len(events); j++ {
		balance := 0
		for _, e := range events[i+1 : j] {
			if e.Kind == impl.EvClose {
				balance--
			} else {
				balance++
			}
		}
		if events[j].Kind == impl.EvClose && balance == 0 {
			return j
		}
	}
	return -1
}

// treeByDocument is the tree word by word, each node looked for by itself.
func treeByDocument(events []impl.Event) ([]impl.Node, int) {
	opens, closes, before := 0, 0, 0
	for _, e := range events {
		switch e.Kind {
		case impl.EvOpen, impl.EvError:
			opens++
		case impl.EvClose:
			closes++
		default:
			return nil, impl.CodeBad
		}
		if e.Pos < 0 || e.Pos < before || closes > opens {
			return nil, impl.CodeBad
		}
		before = e.Pos
	}
	if opens != closes {
		return nil, impl.CodeBad
	}
	var nodes []impl.Node
	var from, to []int // the indexes of each node's events
	for i, e := range events {
		if e.Kind == impl.EvClose {
			continue
		}
		end, parent := closesAt(events, i), -1
		for n := range nodes {
			if from[n] < i && to[n] > i {
				parent = n
			}
		}
		nodes = append(nodes, impl.Node{Kind: e.Kind, Arg: e.Arg, From: e.Pos, To: events[end].Pos, Parent: parent})
		from, to = append(from, i), append(to, end)
	}
	return nodes, impl.CodeOK
}

// wantTree fails unless the events have this tree; no node for CodeBad.
func wantTree(t *testing.T, what string, events []impl.Event, want []impl.Node, code int) {
	t.Helper()
	got, gotCode := impl.BuildTree(events)
	if gotCode != code || !slices.Equal(got, want) {
		t.Fatalf("%s: %.300v: code %d, %.300v, want code %d, %.300v", what, events, gotCode, got, code, want)
	}
}

// asTree fails unless the events have the document's tree, and answers its
// code.
func asTree(t *testing.T, events []impl.Event) int {
	t.Helper()
	want, code := treeByDocument(events)
	wantTree(t, "as the document says", events, want, code)
	return code
}

func TestBuildTree(t *testing.T) {
	for _, c := range []struct {
		what   string
		events []impl.Event
		want   []impl.Node
	}{
		{"nil", nil, nil},
		{"the empty list", []impl.Event{}, nil},
		{"one rule", []impl.Event{opened(3, 1), closed(0, 4)}, []impl.Node{ruleNode(3, 1, 4, -1)}},
		{"one error", []impl.Event{erred(3, 1), closed(0, 4)}, []impl.Node{errorNode(3, 1, 4, -1)}},
		{"a rule over nothing", []impl.Event{opened(0, 5), closed(0, 5)}, []impl.Node{ruleNode(0, 5, 5, -1)}},
		{"an error over nothing", []impl.Event{erred(0, 0), closed(0, 0)}, []impl.Node{errorNode(0, 0, 0, -1)}},
		{"inside each other", []impl.Event{opened(0, 0), erred(1, 1), opened(2, 2), closed(0, 3), closed(0, 4), closed(0, 5)},
			[]impl.Node{ruleNode(0, 0, 5, -1), errorNode(1, 1, 4, 0), ruleNode(2, 2, 3, 1)}},
		{"beside each other", []impl.Event{opened(0, 0), opened(1, 0), closed(0, 1), erred(2, 1), closed(0, 2), opened(3, 3), closed(0, 3), closed(0, 9)},
			[]impl.Node{ruleNode(0, 0, 9, -1), ruleNode(1, 0, 1, 0), errorNode(2, 1, 2, 0), ruleNode(3, 3, 3, 0)}},
		{"back two levels", []impl.Event{opened(0, 0), opened(1, 0), opened(2, 0), closed(0, 1), closed(0, 1), opened(3, 1), closed(0, 2), closed(0, 2)},
			[]impl.Node{ruleNode(0, 0, 2, -1), ruleNode(1, 0, 1, 0), ruleNode(2, 0, 1, 1), ruleNode(3, 1, 2, 0)}},
		{"several without a parent", []impl.Event{opened(0, 0), opened(4, 1), closed(0, 1), closed(0, 2), erred(1, 2), closed(0, 2), opened(2, 7), erred(5, 8), closed(0, 8), closed(0, 8)},
			[]impl.Node{ruleNode(0, 0, 2, -1), ruleNode(4, 1, 1, 0), errorNode(1, 2, 2, -1), ruleNode(2, 7, 8, -1), errorNode(5, 8, 8, 3)}},
		{"closes with any Arg", []impl.Event{opened(1, 0), opened(2, 0), closed(-1, 1), closed(math.MinInt, 1), erred(3, 1), closed(math.MaxInt, 2)},
			[]impl.Node{ruleNode(1, 0, 1, -1), ruleNode(2, 0, 1, 0), errorNode(3, 1, 2, -1)}},
		{"any Arg", []impl.Event{opened(math.MinInt, 0), erred(math.MaxInt, 0), closed(0, 0), opened(-1, 0), closed(0, 0), closed(0, 0)},
			[]impl.Node{ruleNode(math.MinInt, 0, 0, -1), errorNode(math.MaxInt, 0, 0, 0), ruleNode(-1, 0, 0, 0)}},
		{"great places", []impl.Event{opened(0, math.MaxInt-1), opened(0, math.MaxInt), closed(0, math.MaxInt), closed(0, math.MaxInt)},
			[]impl.Node{ruleNode(0, math.MaxInt-1, math.MaxInt, -1), ruleNode(0, math.MaxInt, math.MaxInt, 0)}},
	} {
		wantTree(t, c.what, c.events, c.want, impl.CodeOK)
		asTree(t, c.events)
	}
}

// Each fault alone, in a list that is right without it.
func TestBuildTreeFaults(t *testing.T) {
	right := []impl.Event{opened(0, 1), opened(1, 1), closed(0, 2), erred(2, 4), closed(0, 6), closed(0, 9), opened(3, 9), closed(0, 9)}
	if code := asTree(t, right); code != impl.CodeOK {
		t.Fatalf("the list without a fault: code %d", code)
	}
	wrong := func(what string, events []impl.Event) {
		t.Helper()
		wantTree(t, what, events, nil, impl.CodeBad)
		asTree(t, events)
	}
	for i := range right {
		with := func(change func(e *impl.Event)) []impl.Event {
			events := slices.Clone(right)
			change(&events[i])
			return events
		}
		for _, kind := range append([]int{3, 4, 5, -3}, far...) {
			wrong("a kind", with(func(e *impl.Event) { e.Kind = kind }))
		}
		for _, pos := range []int{-1, -2, math.MinInt} {
			wrong("a negative place", with(func(e *impl.Event) { e.Pos = pos }))
		}
		if i > 0 && right[i].Pos > 1 {
			wrong("a place less than that before", with(func(e *impl.Event) { e.Pos = right[i-1].Pos - 1 }))
		}
		// A close more closes too much there or later on; an open more is
		// never closed; and a list that lacks one of either.
		wrong("a close too many", slices.Insert(slices.Clone(right), i, closed(0, right[i].Pos)))
		wrong("a close too few", slices.Insert(slices.Clone(right), i, opened(0, right[i].Pos)))
		wrong("an event less", slices.Delete(slices.Clone(right), i, i+1))
	}
	wrong("a close behind all", append(slices.Clone(right), closed(0, 9)))
	wrong("an open behind all", append(slices.Clone(right), opened(0, 9)))
	wrong("an error behind all", append(slices.Clone(right), erred(0, 9)))
	wrong("a close alone", []impl.Event{closed(0, 0)})
	wrong("an open alone", []impl.Event{opened(0, 0)})
	wrong("an error alone", []impl.Event{erred(0, 0)})
	wrong("a kind alone", []impl.Event{{Kind: 3}})
	wrong("as many of both, but a close first", []impl.Event{closed(0, 0), opened(0, 0)})
	wrong("the same, later on", []impl.Event{opened(0, 0), closed(0, 0), closed(0, 0), opened(0, 0), closed(0, 0), opened(0, 0)})
	wrong("the places of a close", []impl.Event{opened(0, 2), closed(0, 1)})
	wrong("the places after a close", []impl.Event{opened(0, 2), closed(0, 2), opened(0, 1), closed(0, 2)})
	wrong("a negative place that is not less", []impl.Event{opened(0, -1), closed(0, -1)})
}

// All short lists of all kinds, ones that no run has among them.
func TestBuildTreeShortLists(t *testing.T) {
	codes := map[int]int{}
	look := func(size int, kinds, places []int) {
		var grow func(events []impl.Event)
		grow = func(events []impl.Event) {
			codes[asTree(t, events)]++
			if len(events) == size {
				return
			}
			for _, kind := range kinds {
				for _, pos := range places {
					grow(append(events, impl.Event{Kind: kind, Arg: len(events), Pos: pos}))
				}
			}
		}
		grow(nil)
	}
	look(4, []int{-1, 0, 1, 2, 3}, []int{-1, 0, 1})
	look(6, []int{0, 1, 2}, []int{1, 2})
	look(10, []int{0, 2}, []int{7})
	if codes[impl.CodeOK] < 200 || codes[impl.CodeBad] < 200 {
		t.Errorf("codes %v: the test looks at one side only", codes)
	}
}

// chanceEvents answers the events of whole nodes, so many of them.
func chanceEvents(chance *rand.Rand, nodes int) []impl.Event {
	var events []impl.Event
	pos := chance.Intn(3)
	for open := 0; nodes > 0 || open > 0; pos += chance.Intn(2) * chance.Intn(3) {
		if open == 0 || nodes > 0 && chance.Intn(2) == 0 {
			events = append(events, impl.Event{Kind: chance.Intn(2), Arg: chance.Intn(9) - 1, Pos: pos})
			nodes, open = nodes-1, open+1
		} else {
			events = append(events, closed(chance.Intn(3)-1, pos))
			open--
		}
	}
	return events
}

// Longer lists by chance, right ones and ones that are changed in one place.
func TestBuildTreeByChance(t *testing.T) {
	chance := rand.New(rand.NewSource(51))
	codes := map[int]int{}
	for i := range 3000 {
		events := chanceEvents(chance, 1+i%25)
		if code := asTree(t, events); code != impl.CodeOK {
			t.Fatalf("%v: code %d", events, code)
		}
		one := &events[chance.Intn(len(events))]
		switch i % 3 {
		case 0:
			one.Kind = chance.Intn(5) - 1
		case 1:
			one.Pos += chance.Intn(9) - 4
		case 2:
			*one = impl.Event{Kind: far[chance.Intn(len(far))], Arg: far[chance.Intn(len(far))], Pos: far[chance.Intn(len(far))]}
		}
		codes[asTree(t, events)]++
	}
	if codes[impl.CodeOK] < 200 || codes[impl.CodeBad] < 200 {
		t.Errorf("codes %v: the test looks at one side only", codes)
	}
}

// Long lists: as deep and as wide as can be, right and with the last missing.
func TestBuildTreeLongLists(t *testing.T) {
	const size = 200000
	deep := append(slices.Repeat([]impl.Event{opened(1, 0)}, size), slices.Repeat([]impl.Event{closed(0, 1)}, size)...)
	wide := slices.Repeat([]impl.Event{erred(1, 0), closed(0, 0)}, size)
	wantDeep, wantWide := make([]impl.Node, size), make([]impl.Node, size)
	for i := range size {
		wantDeep[i] = ruleNode(1, 0, 1, i-1)
		wantWide[i] = errorNode(1, 0, 0, -1)
	}
	wantTree(t, "deep", deep, wantDeep, impl.CodeOK)
	wantTree(t, "wide", wide, wantWide, impl.CodeOK)
	wantTree(t, "deep, not closed", deep[:2*size-1], nil, impl.CodeBad)
	wantTree(t, "wide, not closed", wide[:2*size-1], nil, impl.CodeBad)
	wantTree(t, "opens alone", deep[:size], nil, impl.CodeBad)
	wantTree(t, "closes alone", deep[size:], nil, impl.CodeBad)
}

// isTree fails unless the nodes are a tree over the bytes from 0 to pos.
func isTree(t *testing.T, what string, nodes []impl.Node, pos int) {
	t.Helper()
	last := map[int]int{} // where the latest son of each node ends
	for i, n := range nodes {
		if n.From < 0 || n.From > n.To || n.To > pos {
			t.Fatalf("%s: node %d of %v does not lie from 0 to %d", what, i, nodes, pos)
		}
		if n.Parent < -1 || n.Parent >= i {
			t.Fatalf("%s: node %d of %v has no parent before it", what, i, nodes)
		}
		if n.Parent >= 0 && (n.From < nodes[n.Parent].From || n.To > nodes[n.Parent].To) {
			t.Fatalf("%s: node %d of %v is not within its parent", what, i, nodes)
		}
		if n.From < last[n.Parent] {
			t.Fatalf("%s: node %d of %v begins before its brother ends", what, i, nodes)
		}
		last[n.Parent] = n.To
	}
}

// Promise 11: trees of runs, told by hand.
func TestPromise11(t *testing.T) {
	for _, c := range []struct {
		grammar, input string
		want           []impl.Node
	}{
		{`s = "" ;`, "", []impl.Node{ruleNode(0, 0, 0, -1)}},
		{`s = . t u ; t = "" ; u = t t ;`, "a", []impl.Node{ruleNode(0, 0, 1, -1), ruleNode(1, 1, 1, 0), ruleNode(2, 1, 1, 0), ruleNode(1, 1, 1, 2), ruleNode(1, 1, 1, 2)}},
		{`s = t* ; t = "a" u ; u = "b" / "" ;`, "aab", []impl.Node{ruleNode(0, 0, 3, -1),
			ruleNode(1, 0, 1, 0), ruleNode(2, 1, 1, 1), ruleNode(1, 1, 3, 0), ruleNode(2, 2, 3, 3)}},
		{`s = t / u ; t = u "b" ; u = "a" ;`, "ac", []impl.Node{ruleNode(0, 0, 1, -1), ruleNode(2, 0, 1, 0)}},
		{`s = !t u &u ; t = u "b" ; u = "a" ;`, "aa", []impl.Node{ruleNode(0, 0, 1, -1), ruleNode(2, 0, 1, 0)}},
		{`s = "a" ("b" / ^e) "c" ; ^e = !"c" . ;`, "axc", []impl.Node{ruleNode(0, 0, 3, -1), errorNode(0, 1, 2, 0)}},
		{`s = "a" ("b" / ^e) "c" ; ^e = "" ;`, "ac", []impl.Node{ruleNode(0, 0, 2, -1), errorNode(0, 1, 1, 0)}},
		{`s = ^f ; t = . ; ^e = t t ; ^f = t ^e t ;`, "abcd", []impl.Node{ruleNode(0, 0, 4, -1), errorNode(1, 0, 4, 0), ruleNode(1, 0, 1, 1),
			errorNode(0, 1, 3, 1), ruleNode(1, 1, 2, 3), ruleNode(1, 2, 3, 3), ruleNode(1, 3, 4, 1)}},
		{`s = (^e "b" / t)* ; t = . ; ^e = "a" ;`, "aab", []impl.Node{ruleNode(0, 0, 3, -1), ruleNode(1, 0, 1, 0), errorNode(0, 1, 2, 0)}},
	} {
		o := impl.Run(compiled(t, read(t, c.grammar)), []byte(c.input), impl.MaxFuel, impl.MaxStack)
		if o.Code != impl.CodeOK {
			t.Errorf("%s on %q: code %d", c.grammar, c.input, o.Code)
		}
		wantTree(t, c.grammar, o.Events, c.want, impl.CodeOK)
		isTree(t, c.grammar, c.want, o.Pos)
	}
}

// Promise 11: trees of runs of grammars by chance, whether Check passes them
// or not.
func TestPromise11ByChance(t *testing.T) {
	chance := rand.New(rand.NewSource(52))
	trees, inside, beside, recovered, nothing := 0, 0, 0, 0, 0
	for i := range 6000 {
		g, input := livelyGrammar(chance), livelyInput(chance, 12)
		if i%3 == 0 {
			g, input = leanGrammar(chance), inputsOf[chance.Intn(len(inputsOf))]
		}
		o := impl.Run(compiled(t, g), []byte(input), 2000, 100)
		if o.Code != impl.CodeOK {
			continue
		}
		what := fmt.Sprintf("%s on %q", grammarText(g), input)
		if code := asTree(t, o.Events); code != impl.CodeOK {
			t.Fatalf("%s: code %d", what, code)
		}
		nodes, _ := impl.BuildTree(o.Events)
		isTree(t, what, nodes, o.Pos)
		if len(nodes) == 0 || nodes[0] != ruleNode(0, 0, o.Pos, -1) {
			t.Fatalf("%s: %v", what, nodes)
		}
		trees++
		for j, n := range nodes[1:] {
			if n.Parent < 0 {
				t.Fatalf("%s: %v has two nodes without a parent", what, nodes)
			}
			if n.Parent == j {
				inside++
			} else {
				beside++
			}
			if n.Kind == impl.EvError {
				recovered++
			}
			if n.From == n.To {
				nothing++
			}
		}
	}
	if trees < 500 || inside < 200 || beside < 200 || recovered < 200 || nothing < 200 {
		t.Errorf("%d trees, %d first sons, %d brothers, %d recoveries, %d over nothing: the test looks at some sides only", trees, inside, beside, recovered, nothing)
	}
}

// The events stay as they are, no tree shares memory with another or with
// them, and what lies behind them plays no part.
func TestBuildTreeMemory(t *testing.T) {
	chance := rand.New(rand.NewSource(53))
	for i := range 300 {
		events := chanceEvents(chance, i%20)
		whole := append(slices.Clone(events), closed(7, 77), opened(8, 88), closed(9, 99))
		before := slices.Clone(whole)
		part := whole[:len(events)]
		one, _ := impl.BuildTree(part)
		two, _ := impl.BuildTree(part)
		apart(t, []memoryOf{memory("events", whole), memory("tree", one), memory("tree again", two)})
		told := slices.Clone(two)
		for j := range one[:cap(one)] {
			one[:cap(one)][j] = impl.Node{Kind: -1}
		}
		if !slices.Equal(whole, before) || !slices.Equal(two, told) {
			t.Fatalf("%v is changed, or the answer shares its memory", before)
		}
		for j := range whole {
			whole[j] = impl.Event{Kind: -1}
		}
		if third, _ := impl.BuildTree(events); !slices.Equal(two, told) || !slices.Equal(third, told) {
			t.Fatalf("%v: the answers are not the same every time", events)
		}
	}
}
