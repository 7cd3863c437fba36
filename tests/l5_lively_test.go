package tests

import (
	"math/rand"
	"slices"

	"loop.example/s0055/impl"
)

// lively writes grammars by chance that Check passes nearly always, and whose
// runs call, throw and recover a lot.
type lively struct {
	chance        *rand.Rand
	rules, labels int
}

// livelyBytes are the bytes of lively grammars and of their inputs: lines, and
// characters of one and of two bytes.
const livelyBytes = "aaabbc\n\xc3\xa9"

func livelyInput(chance *rand.Rand, size int) string {
	input := make([]byte, chance.Intn(1+size))
	for i := range input {
		input[i] = livelyBytes[chance.Intn(len(livelyBytes))]
	}
	return string(input)
}

func livelyGrammar(chance *rand.Rand) impl.Grammar {
	l := lively{chance, 1 + chance.Intn(5), chance.Intn(4)}
	var g impl.Grammar
	for i, name := range numbered(l.rules, 2) {
		g.Rules = append(g.Rules, rule(name, l.body(i)...))
	}
	for i, name := range numbered(l.labels, 2) {
		if chance.Intn(5) > 0 {
			g.Labels = append(g.Labels, recovery(name, l.recovery(i)...))
		} else {
			g.Labels = append(g.Labels, bare(name))
			g.Rules[0].Body = append(g.Rules[0].Body, throw(i), alt)
		}
	}
	return g
}

func (l lively) lit() impl.Op {
	return lit(int(livelyBytes[l.chance.Intn(len(livelyBytes))]))
}

// body answers the body of rule i: one sequence, or the choice of two.
func (l lively) body(i int) []impl.Op {
	body := l.sequence(i)
	if l.chance.Intn(2) == 0 {
		body = slices.Concat(body, l.sequence(i), []impl.Op{alt})
	}
	return body
}

func (l lively) sequence(i int) []impl.Op {
	body := l.item(i)
	for range l.chance.Intn(4) {
		body = slices.Concat(body, l.item(i), []impl.Op{seq})
	}
	return body
}

// item answers a part of rule i. It begins with later rules alone, and what a
// star repeats begins with a byte.
func (l lively) item(i int) []impl.Op {
	switch n := l.chance.Intn(13); {
	case n < 4 && i < l.rules-1:
		return []impl.Op{ref(i + 1 + l.chance.Intn(l.rules-i-1))}
	case n == 4:
		return []impl.Op{l.lit(), ref(l.chance.Intn(l.rules)), seq}
	case n < 8 && l.labels > 0:
		return append(l.item(i), throw(l.chance.Intn(l.labels)), alt)
	case n == 8:
		return slices.Concat([]impl.Op{l.lit()}, l.item(i), []impl.Op{seq, star})
	case n == 9:
		return append(l.item(i), not)
	case n == 10:
		return append(l.item(i), empty, alt)
	case n == 11:
		return []impl.Op{set('a', 'c'), star}
	}
	return []impl.Op{l.lit()}
}

// recovery answers the recovery of label i.
func (l lively) recovery(i int) []impl.Op {
	switch l.chance.Intn(6) {
	case 0:
		return []impl.Op{empty}
	case 1:
		return []impl.Op{lit('a'), not, set(0, 255), seq, star}
	case 2:
		return []impl.Op{set(0, 255), ref(l.chance.Intn(l.rules)), seq}
	case 3:
		if i < l.labels-1 {
			return []impl.Op{l.lit(), throw(i + 1), alt}
		}
	}
	return []impl.Op{set(0, 255)}
}
