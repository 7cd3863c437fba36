package tests

import (
	"fmt"
	"slices"
	"testing"

	"loop.example/s0055/impl"
)

func iTest(set ...int) impl.Ins { return impl.Ins{Kind: impl.InsTest, Set: set} }

func iChoice(to int) impl.Ins { return impl.Ins{Kind: impl.InsChoice, To: to} }

func iCommit(to int) impl.Ins { return impl.Ins{Kind: impl.InsCommit, To: to} }

func iPartial(to int) impl.Ins { return impl.Ins{Kind: impl.InsPartial, To: to} }

func iNot(to int) impl.Ins { return impl.Ins{Kind: impl.InsNot, To: to} }

func iCall(to int) impl.Ins { return impl.Ins{Kind: impl.InsCall, To: to} }

func iThrow(label, to int) impl.Ins { return impl.Ins{Kind: impl.InsThrow, Arg: label, To: to} }

func iOpen(arg int) impl.Ins { return impl.Ins{Kind: impl.InsOpen, Arg: arg} }

func iError(arg int) impl.Ins { return impl.Ins{Kind: impl.InsError, Arg: arg} }

func iClose(arg int) impl.Ins { return impl.Ins{Kind: impl.InsClose, Arg: arg} }

var (
	iTwice = impl.Ins{Kind: impl.InsTwice}
	iRet   = impl.Ins{Kind: impl.InsRet}
	iEnd   = impl.Ins{Kind: impl.InsEnd}
)

func program(prog ...impl.Ins) []impl.Ins { return prog }

// tell tells an outcome whole; nil and empty lists are told alike.
func tell(o impl.Outcome) string { return fmt.Sprintf("%+v", o) }

var (
	bad       = impl.Outcome{Code: impl.CodeBad}
	exhausted = impl.Outcome{Code: impl.CodeExhausted}
)

// runs fails unless the run has this outcome, with exactly the fuel and the
// stack it needs as with more; with one less of either it is exhausted, and it
// is exhausted with no fuel. So it holds promise 10 too.
func runs(t *testing.T, what string, prog []impl.Ins, input string, fuel, stack int, want impl.Outcome) {
	t.Helper()
	for _, more := range [][2]int{{0, 0}, {1, 0}, {0, 1}, {7, 3}, {impl.MaxFuel, 0}, {0, impl.MaxStack}, {impl.MaxFuel, impl.MaxStack}} {
		moreFuel, moreStack := min(fuel+more[0], impl.MaxFuel), min(stack+more[1], impl.MaxStack)
		if got := impl.Run(prog, []byte(input), moreFuel, moreStack); tell(got) != tell(want) {
			t.Errorf("%s on %.40q with fuel %d and stack %d: %.900s, want %.900s", what, input, moreFuel, moreStack, tell(got), tell(want))
		}
	}
	for _, less := range [][2]int{{fuel - 1, stack}, {fuel - 1, impl.MaxStack}, {fuel, stack - 1}, {impl.MaxFuel, stack - 1}, {0, stack}} {
		if less[0] < 0 || less[1] < 0 || less[0] == fuel && less[1] == stack {
			continue
		}
		if got := impl.Run(prog, []byte(input), less[0], less[1]); tell(got) != tell(exhausted) {
			t.Errorf("%s on %.40q with fuel %d and stack %d: %.900s, want it exhausted", what, input, less[0], less[1], tell(got))
		}
	}
}

// machineFrame is a frame of the document's machine: a choice, not or return.
type machineFrame struct {
	sort                  string
	index, offset, length int
}

// runByDocument is the machine word by word, without a thought of its costs.
func runByDocument(prog []impl.Ins, input string, fuel, stack int) impl.Outcome {
	if fuel < 0 || fuel > 50000 || stack < 0 || stack > 1000 {
		return bad
	}
	for _, ins := range prog {
		if len(ins.Set) > 512 {
			return bad
		}
	}
	index, offset, farthest, steps, throws := 0, 0, 0, 0, 0
	var frames []machineFrame
	var log []impl.Event
	expect := map[int]bool{}
	ends := func(code int) impl.Outcome {
		set := setOf(func(b int) bool { return expect[b] })
		return impl.Outcome{Code: code, Far: farthest, Expect: set, Steps: steps, Throws: throws}
	}
	for {
		if index < 0 || index >= len(prog) {
			return bad
		}
		if steps == fuel {
			return exhausted
		}
		steps++
		ins, next := prog[index], index+1
		top := machineFrame{sort: "none"}
		if len(frames) > 0 {
			top = frames[len(frames)-1]
		}
		insideNot := slices.ContainsFunc(frames, func(f machineFrame) bool { return f.sort == "not" })
		push, asked, fails := "", "", false
		switch ins.Kind {
		case impl.InsTest:
			in := func(b int) bool {
				for i := 0; i+1 < len(ins.Set); i += 2 {
					if ins.Set[i] <= b && b <= ins.Set[i+1] {
						return true
					}
				}
				return false
			}
			if offset < len(input) && in(int(input[offset])) {
				offset++
				break
			}
			fails = true
			if insideNot || offset < farthest {
				break
			}
			if offset > farthest {
				farthest = offset
				clear(expect)
			}
			for b := range 256 {
				if in(b) {
					expect[b] = true
				}
			}
		case impl.InsChoice:
			push = "choice"
		case impl.InsNot:
			push = "not"
		case impl.InsCommit, impl.InsPartial:
			asked, next = "choice", ins.To
		case impl.InsTwice:
			asked, fails = "not", true
		case impl.InsCall:
			push = "return"
		case impl.InsRet:
			asked, next = "return", top.index
		case impl.InsThrow:
			if insideNot {
				fails = true
				break
			}
			throws++
			if ins.To < 0 {
				o := ends(impl.CodeLabel)
				o.Pos, o.Label = offset, ins.Arg
				return o
			}
			push = "return"
		case impl.InsOpen:
			log = append(log, impl.Event{Kind: 0, Arg: ins.Arg, Pos: offset})
		case impl.InsError:
			log = append(log, impl.Event{Kind: 1, Arg: ins.Arg, Pos: offset})
		case impl.InsClose:
			log = append(log, impl.Event{Kind: 2, Arg: ins.Arg, Pos: offset})
		case impl.InsEnd:
			if len(frames) > 0 {
				return bad
			}
			o := ends(impl.CodeOK)
			o.Pos, o.Events = offset, log
			return o
		default:
			return bad
		}
		if asked != "" {
			if top.sort != asked {
				return bad
			}
			frames = frames[:len(frames)-1]
			if ins.Kind == impl.InsPartial {
				frames = append(frames, machineFrame{"choice", top.index, offset, len(log)})
			}
		}
		if push != "" {
			if len(frames) == stack {
				return exhausted
			}
			f := machineFrame{push, ins.To, offset, len(log)}
			if push == "return" {
				f, next = machineFrame{"return", next, 0, 0}, ins.To
			}
			frames = append(frames, f)
		}
		for fails {
			if len(frames) == 0 {
				return ends(impl.CodeFail)
			}
			f := frames[len(frames)-1]
			frames = frames[:len(frames)-1]
			if f.sort != "return" {
				fails = false
				offset, log, next = f.offset, slices.Clone(log[:f.length]), f.index
			}
		}
		index = next
	}
}

// asMachine fails unless the run is the document's, and answers its code.
func asMachine(t *testing.T, prog []impl.Ins, input string, fuel, stack int) int {
	t.Helper()
	got := impl.Run(prog, []byte(input), fuel, stack)
	if want := runByDocument(prog, input, fuel, stack); tell(got) != tell(want) {
		t.Fatalf("%s on %.40q with fuel %d and stack %d: %.900s, want %.900s", listing(prog), input, fuel, stack, tell(got), tell(want))
	}
	return got.Code
}

// Promise 9: an instruction that asks for a frame finds it on top, another
// one or none; the others take any.
func TestPromise9Frames(t *testing.T) {
	asks := map[int]string{impl.InsCommit: "choice", impl.InsPartial: "choice", impl.InsTwice: "not", impl.InsRet: "return", impl.InsEnd: "none"}
	for _, c := range []struct {
		top, below string
		first      []impl.Ins // so that the instruction at 3 is next
	}{
		{"none", "none", program(iOpen(1), iOpen(2), iOpen(3))},
		{"choice", "none", program(iOpen(1), iOpen(2), iChoice(5))},
		{"not", "none", program(iOpen(1), iOpen(2), iNot(5))},
		{"return", "none", program(iCall(2), iEnd, iOpen(3))},
		{"not", "choice", program(iOpen(1), iChoice(5), iNot(5))},
		{"choice", "not", program(iOpen(1), iNot(5), iChoice(5))},
		{"return", "choice", program(iChoice(5), iCall(3), iEnd)},
		{"return", "not", program(iNot(5), iCall(3), iEnd)},
		{"choice", "return", program(iCall(1), iOpen(2), iChoice(5))},
		{"not", "return", program(iCall(1), iOpen(2), iNot(5))},
		{"choice", "choice", program(iOpen(1), iChoice(5), iChoice(5))},
		{"not", "not", program(iOpen(1), iNot(5), iNot(5))},
		{"return", "return", program(iCall(1), iCall(3), iEnd)},
	} {
		for kind := range kindNames {
			prog := append(slices.Clone(c.first), impl.Ins{Kind: kind, Arg: 9, To: 4, Set: []int{'a', 'a'}}, iOpen(8), iEnd, iEnd)
			code := asMachine(t, prog, "a", 20, 5)
			if asked := asks[kind]; asked != "" && asked != c.top && code != impl.CodeBad {
				t.Errorf("%s with %s on top, %s below: code %d", kindNames[kind], c.top, c.below, code)
			} else if asked == c.top && c.below == "none" && kind != impl.InsPartial && code == impl.CodeBad {
				// After a partial the frame still lies there at the end.
				t.Errorf("%s with %s: code %d", kindNames[kind], c.top, code)
			}
		}
	}
	// Without fuel none of it is looked at.
	for kind := range kindNames {
		if got := impl.Run(program(impl.Ins{Kind: kind}), nil, 0, 5); tell(got) != tell(exhausted) {
			t.Errorf("%s without fuel: %s", kindNames[kind], tell(got))
		}
	}
}

// ok, labeled and unmatched are outcomes of runs that come to an end.
func ok(pos, steps, throws int, events ...impl.Event) impl.Outcome {
	return impl.Outcome{Pos: pos, Steps: steps, Throws: throws, Events: events}
}

func labeled(label, pos, steps, throws int) impl.Outcome {
	return impl.Outcome{Code: impl.CodeLabel, Label: label, Pos: pos, Steps: steps, Throws: throws}
}

func unmatched(steps, throws int) impl.Outcome {
	return impl.Outcome{Code: impl.CodeFail, Steps: steps, Throws: throws}
}

// expecting answers the outcome with this farthest failure.
func expecting(o impl.Outcome, farthest int, expect ...int) impl.Outcome {
	o.Far, o.Expect = farthest, expect
	return o
}

func opened(arg, pos int) impl.Event { return impl.Event{Kind: impl.EvOpen, Arg: arg, Pos: pos} }

func erred(arg, pos int) impl.Event { return impl.Event{Kind: impl.EvError, Arg: arg, Pos: pos} }

func closed(arg, pos int) impl.Event { return impl.Event{Kind: impl.EvClose, Arg: arg, Pos: pos} }

// What each instruction does, with the fuel and the stack that it takes.
func TestRunInstructions(t *testing.T) {
	a, b, c, d := iTest('a', 'a'), iTest('b', 'b'), iTest('c', 'c'), iTest('d', 'd')
	for _, r := range []struct {
		what        string
		prog        []impl.Ins
		input       string
		fuel, stack int
		want        impl.Outcome
	}{
		{"the empty program", nil, "a", 0, 0, bad},
		{"end", program(iEnd), "a", 1, 0, ok(0, 1, 0)},
		{"end, with a frame left", program(iChoice(0), iEnd), "a", 2, 1, bad},
		{"falling off", program(iOpen(1)), "a", 1, 0, bad},

		{"test", program(a, iEnd), "a", 2, 0, ok(1, 2, 0)},
		{"test of another byte", program(a, iEnd), "b", 1, 0, expecting(unmatched(1, 0), 0, 'a', 'a')},
		{"test at the end", program(a, iEnd), "", 1, 0, expecting(unmatched(1, 0), 0, 'a', 'a')},
		{"test behind another", program(a, b, iEnd), "ab", 3, 0, ok(2, 3, 0)},
		{"test failing behind another", program(a, b, iEnd), "aa", 2, 0, expecting(unmatched(2, 0), 1, 'b', 'b')},
		{"test failing at the end", program(a, a, iEnd), "a", 2, 0, expecting(unmatched(2, 0), 1, 'a', 'a')},

		{"choice that is not needed", program(iChoice(3), a, iCommit(4), b, iEnd), "a", 4, 1, ok(1, 4, 0)},
		{"choice that is taken", program(iChoice(3), a, iCommit(4), b, iEnd), "b", 4, 1, expecting(ok(1, 4, 0), 0, 'a', 'a')},
		{"choice whose both ways fail", program(iChoice(3), a, iCommit(4), b, iEnd), "c", 3, 1, expecting(unmatched(3, 0), 0, 'a', 'b')},
		{"choice that goes back", program(iOpen(1), iChoice(6), a, iOpen(2), b, iEnd, iClose(3), iEnd), "ac", 7, 1,
			expecting(ok(0, 7, 0, opened(1, 0), closed(3, 0)), 1, 'b', 'b')},
		{"choice that is taken off", program(iChoice(9), iCommit(2), a, iEnd), "b", 3, 1, expecting(unmatched(3, 0), 0, 'a', 'a')},
		{"the upper choice alone", program(iChoice(6), a, iChoice(5), b, iEnd, iEnd, iEnd), "ax", 5, 2, bad},
		{"the upper choice, then the lower", program(iChoice(5), a, iChoice(4), b, c, iEnd), "ax", 6, 2, expecting(ok(0, 6, 0), 1, 'b', 'c')},
		{"commit keeps the log", program(iChoice(9), iOpen(1), a, iCommit(4), iClose(2), iEnd), "a", 6, 1, ok(1, 6, 0, opened(1, 0), closed(2, 1))},

		{"partial", program(iChoice(4), a, iOpen(7), iPartial(1), iEnd), "aab", 9, 1, expecting(ok(2, 9, 0, opened(7, 1), opened(7, 2)), 2, 'a', 'a')},
		{"partial, and a log that is cut", program(iChoice(4), iOpen(7), a, iPartial(1), iEnd), "aab", 10, 1,
			expecting(ok(2, 10, 0, opened(7, 0), opened(7, 1)), 2, 'a', 'a')},
		{"partial keeps the index of its frame", program(iChoice(3), a, iPartial(1), iClose(5), iEnd), "a", 6, 1, expecting(ok(1, 6, 0, closed(5, 1)), 1, 'a', 'a')},

		{"not whose operand fails", program(iNot(3), a, iTwice, iEnd), "b", 3, 1, ok(0, 3, 0)},
		{"not whose operand succeeds", program(iNot(3), a, iTwice, iEnd), "a", 3, 1, unmatched(3, 0)},
		{"not that goes back", program(iNot(5), iOpen(1), a, b, iTwice, iClose(2), iEnd), "ac", 6, 1, ok(0, 6, 0, closed(2, 0))},
		{"twice goes on at the choice below", program(iChoice(5), iOpen(1), iNot(4), iTwice, iEnd, iClose(2), iEnd), "", 6, 2, ok(0, 6, 0, closed(2, 0))},
		{"twice goes back to the choice below", program(a, iOpen(4), iChoice(7), a, iOpen(1), iNot(0), iTwice, iClose(2), iEnd), "aaa", 9, 2,
			ok(1, 9, 0, opened(4, 1), closed(2, 1))},
		{"twice with a return frame below", program(iChoice(4), iCall(2), iNot(0), iTwice, iEnd), "", 5, 3, ok(0, 5, 0)},

		{"call and ret", program(iCall(2), iEnd, iOpen(1), iRet), "", 4, 1, ok(0, 4, 0, opened(1, 0))},
		{"calls in calls", program(iCall(3), iOpen(1), iEnd, iCall(6), iOpen(2), iRet, iOpen(3), iRet), "", 8, 2,
			ok(0, 8, 0, opened(3, 0), opened(2, 0), opened(1, 0))},
		{"a failure in a call", program(iChoice(4), iCall(3), iEnd, a, iEnd), "", 4, 2, expecting(ok(0, 4, 0), 0, 'a', 'a')},
		{"a failure in calls alone", program(iCall(1), iCall(2), a), "", 3, 2, expecting(unmatched(3, 0), 0, 'a', 'a')},
		{"ret to behind the end", program(iChoice(3), iTest(), iRet, iCall(2)), "", 4, 1, bad},

		{"throw without a recovery", program(iThrow(7, -1)), "a", 1, 0, labeled(7, 0, 1, 1)},
		{"throw behind a byte and an event", program(a, iOpen(1), iThrow(7, -1), iEnd), "ab", 3, 0, labeled(7, 1, 3, 1)},
		{"throw under choices and calls", program(iChoice(0), iCall(2), iChoice(0), iThrow(7, -1), iEnd), "a", 4, 3, labeled(7, 0, 4, 1)},
		{"throw with a recovery", program(iThrow(7, 2), iEnd, iError(5), b, iClose(6), iRet), "b", 6, 1, ok(1, 6, 1, erred(5, 0), closed(6, 1))},
		{"throw with a recovery at 0", program(a, iThrow(3, 0), iEnd), "a", 3, 1, expecting(unmatched(3, 1), 1, 'a', 'a')},
		{"throw with a recovery that fails", program(iChoice(4), iThrow(7, 3), iEnd, b, iEnd), "a", 4, 2, expecting(ok(0, 4, 1), 0, 'b', 'b')},
		{"throw with a recovery that fails alone", program(iThrow(7, 2), iEnd, b), "a", 2, 1, expecting(unmatched(2, 1), 0, 'b', 'b')},
		{"throw in a recovery", program(iThrow(7, 2), iEnd, iThrow(8, -1)), "a", 2, 1, labeled(8, 0, 2, 2)},
		{"throws one after another", program(iThrow(7, 3), iThrow(8, 3), iEnd, iRet), "a", 5, 1, ok(0, 5, 2)},

		{"throw inside a not", program(iNot(2), iThrow(7, -1), iEnd), "a", 3, 1, ok(0, 3, 0)},
		{"throw with a recovery inside a not", program(iNot(3), iThrow(7, 0), iEnd, iClose(2), iEnd), "a", 4, 1, ok(0, 4, 0, closed(2, 0))},
		{"throw inside a not goes back", program(a, iNot(5), iOpen(1), a, iThrow(7, -1), iClose(2), iEnd), "aa", 7, 1, ok(1, 7, 0, closed(2, 1))},
		{"throw under a choice inside a not", program(iNot(4), iChoice(3), iThrow(7, -1), iTwice, iEnd), "a", 4, 2, unmatched(4, 0)},
		{"throws with a not far below", program(iNot(5), iCall(2), iChoice(4), iThrow(1, -1), iThrow(2, -1), iEnd), "a", 6, 3, ok(0, 6, 0)},
		{"throw after a not whose operand failed", program(iNot(2), a, iThrow(4, -1)), "b", 3, 1, labeled(4, 0, 3, 1)},
		{"throw after a not whose operand succeeded", program(iChoice(3), iNot(9), iTwice, iThrow(4, -1)), "b", 4, 2, labeled(4, 0, 4, 1)},
		{"throw after a throw inside a not", program(iNot(2), iThrow(7, -1), iThrow(4, -1)), "b", 3, 1, labeled(4, 0, 3, 1)},
		{"throw between two nots", program(iNot(4), iNot(3), a, iThrow(4, -1), iEnd), "", 5, 2, ok(0, 5, 0)},
		{"throw after two nots", program(iNot(3), iNot(3), iTwice, iThrow(4, -1), iEnd), "", 4, 2, labeled(4, 0, 4, 1)},
		{"throw inside a not inside a recovery", program(iThrow(1, 2), iEnd, iError(1), iNot(6), iThrow(2, -1), iTwice, iClose(0), iRet), "", 7, 2,
			ok(0, 7, 1, erred(1, 0), closed(0, 0))},
		{"throw with a recovery inside a not inside a recovery", program(iThrow(1, 2), iEnd, iError(1), iNot(6), iThrow(1, 2), iTwice, iClose(0), iRet), "", 7, 2,
			ok(0, 7, 1, erred(1, 0), closed(0, 0))},
		{"throw behind a choice that went through partial", program(iChoice(5), iNot(3), iTest(), iPartial(4), iTest(), iThrow(6, -1)), "", 6, 2, labeled(6, 0, 6, 1)},

		{"failures at, before and at the farthest place", program(iChoice(3), a, b, iChoice(6), a, c, d), "ax", 7, 1, expecting(unmatched(7, 0), 1, 'b', 'c')},
		{"a failure behind the farthest place", program(iChoice(2), b, a, c), "ax", 4, 1, expecting(unmatched(4, 0), 1, 'c', 'c')},
		{"an empty set behind the farthest place", program(iChoice(2), b, a, iTest()), "ax", 4, 1, expecting(unmatched(4, 0), 1)},
		{"an empty set at the farthest place", program(iChoice(2), b, iTest()), "ax", 3, 1, expecting(unmatched(3, 0), 0, 'b', 'b')},
		{"a failure behind, then one at 0", program(iChoice(4), a, a, b, b), "aac", 5, 1, expecting(unmatched(5, 0), 2, 'b', 'b')},
		{"a failure inside a not", program(iNot(3), a, b, c), "ab", 5, 1, expecting(unmatched(5, 0), 0, 'c', 'c')},
		{"a failure behind, inside a not", program(iChoice(2), c, iNot(5), a, b, d), "ac", 6, 1, expecting(unmatched(6, 0), 0, 'c', 'd')},
		{"a failure at the place, inside a not", program(iChoice(2), c, iNot(4), d, b), "ac", 5, 1, expecting(unmatched(5, 0), 0, 'b', 'c')},
		{"a failure far inside a not", program(iNot(4), iChoice(3), b, c, d), "a", 5, 2, expecting(unmatched(5, 0), 0, 'd', 'd')},
		{"a failure below a not frame that is gone", program(iChoice(4), iNot(9), iTwice, iEnd, b), "a", 4, 2, expecting(unmatched(4, 0), 0, 'b', 'b')},
		{"a farthest failure stays when the run is labeled", program(iChoice(3), a, b, iThrow(2, -1)), "ac", 4, 1, expecting(labeled(2, 0, 4, 1), 1, 'b', 'b')},
		{"a match behind the farthest failure", program(iChoice(2), b, a, a, iEnd), "aa", 5, 1, expecting(ok(2, 5, 0), 0, 'b', 'b')},
	} {
		if got := runByDocument(r.prog, r.input, r.fuel, r.stack); tell(got) != tell(r.want) {
			t.Errorf("%s: the document's machine answers %s, want %s", r.what, tell(got), tell(r.want))
		}
		runs(t, r.what, r.prog, r.input, r.fuel, r.stack, r.want)
	}
}
